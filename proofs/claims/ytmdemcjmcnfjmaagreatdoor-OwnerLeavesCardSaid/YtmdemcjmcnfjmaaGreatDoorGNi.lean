/- What with of package owner answers. -/
import Derived.Test.YtmdemcjmcnfjmaaGreatDoorGNe
import Derived.Shelf.Spec.SlicesInsertGrow
import Derived.Laws.CopyRow
import Derived.Test.YtmdemcjmcnfjmaaGreatDoorGOq
import Derived.Test.YtmdemcjmcnfjmaaGreatDoorGOc
import Derived.Test.YtmdemcjmcnfjmaaGreatDoorGShq
import Derived.Test.YtmdemcjmcnfjmaaGreatDoorGFc
import Derived.Test.YtmdemcjmcnfjmaaGreatDoorGOi
set_option linter.unusedSimpArgs false
set_option linter.unusedVariables false
namespace Go.Proofs.YtmdemcjmcnfjmaaGreatDoor
open Go.RowKit
def OwnRow (w:World) (B:Nat) (os:List Own) (r:Value):Prop:=∃ pvs,os.length=pvs.length/\w.ownsRow B 41 2 r os.length (oCells os pvs) /\
 ∀ (i:Nat) (o:Own) (v:Value),os[i]?=some o->pvs[i]?=some v->(∃ a c,v=.slice a o.paths.length c)/\StrsAre w (fun k=>B<=k/\some k≠r.ownBlock) o.paths v
theorem oCells_at:∀ (os:List Own) (vs:List Value) (i:Nat) (o:Own) (v:Value),os[i]?=some o->vs[i]?=some v->(oCells os vs)[i * 2]?=some (.string ⟨o.name.toArray⟩)/\(oCells os vs)[i * 2+1]?=some v
 | [],_,i,o,v,h,_=>by simp at h
 | _ :: _,[],i,o,v,_,h=>by simp at h
 | o' :: os,v' :: vs,0,o,v,h1,h2=>by simp at h1 h2;subst h1;subst h2;exact⟨rfl,rfl⟩
 | o' :: os,v' :: vs,i+1,o,v,h1,h2=>by
  have:=oCells_at os vs i o v (by simpa using h1) (by simpa using h2)
  rw[show (i+1) * 2=i * 2+1+1 by omega]
  exact this
theorem OwnRow.owns {w:World} {B:Nat} {os:List Own} {r:Value} (h:OwnRow w B os r) (hn:∀ o∈os,o.name.length<=maxLen):OwnsAre w (fun k=>B<=k) os r:=by
 obtain⟨pvs,h1,h2,h3⟩:=h
 rcases h2.2 with⟨rfl,h0⟩ | ⟨g,cap,cur,rfl,g1,g2,g3,g4,g5,g6⟩
 ·have e:os=[]:=List.length_eq_zero_iff.1 h0
  subst e
  exact OwnsAre.nil _ _
 ·refine⟨by omega,?_⟩
  by_cases h0:os=[]
  ·subst h0
   have:cap=cap:=rfl
   refine .inr ⟨g,0,cap,rfl,g3,g4,fun i x hx=>by simp at hx⟩
  ·refine .inr ⟨g,0,cap,rfl,g3,g4,fun i x hx=>?_⟩
   obtain⟨hi,rfl⟩:=List.getElem?_eq_some_iff.1 hx
   obtain⟨v,hv⟩:∃ v,pvs[i]?=some v:=⟨_,List.getElem?_eq_getElem (by omega)⟩
   obtain⟨⟨a,c,rfl⟩,hs⟩:=h3 i _ v hx hv
   obtain⟨e1,e2⟩:=oCells_at os pvs i _ _ hx hv
   have hpos:0 < os.length:=List.length_pos_iff.2 h0
   refine⟨a,_,c,hn _ (List.getElem_mem hi),g1,?_,?_,hs.imp fun a x q1 q2=>⟨q1.1,q2⟩⟩
   ·rw[Nat.zero_add];exact(own_cellat h2 hpos e1).1
   ·rw[Nat.zero_add];exact(own_cellat h2 hpos e2).1
theorem OwnRow.base {w:World} {B B':Nat} {os:List Own} {r:Value} (h:OwnRow w B os r) (hb:B'<=B):OwnRow w B' os r:=by
 obtain⟨pvs,h1,h2,h3⟩:=h
 exact⟨pvs,h1,own_base h2 hb,fun i o v g1 g2=>⟨(h3 i o v g1 g2).1,(h3 i o v g1 g2).2.imp fun a x q1 q2=>⟨⟨Nat.le_trans hb q1.1,q1.2⟩,q2⟩⟩⟩
theorem KpI.row {w0 W:World} {os:List Own} {F:Nat->Prop} (h:KpI w0 os F W):∃ ov,W.heap[w0.heap.size]?=some (.cells #[ov] 26)/\OwnRow W (w0.heap.size+1) os ov:=by
 obtain⟨init,lastO,ov,pl,pin,Z,rfl,h⟩:=h
 refine⟨ov,h.box,?_⟩
 have hl:=h.last
 have hr:=h.rows
 have hZ:∀ k,Z k->w0.heap.size+1<=k/\some k≠ov.ownBlock:=fun k hk=>⟨h.zlow k hk,(h.keep k (.inr hk)).2.2.1⟩
 cases lastO with
 | none=>
  obtain⟨rfl,-,hrow⟩:=hl
  exact⟨[],rfl,hrow,fun i o v h1=>by simp at h1⟩
 | some o=>
  refine⟨pin++[pl],by simp[h.plen],by simpa using hl.1,fun i o' v h1 h2=>?_⟩
  by_cases hi:i < init.length
  ·rw[List.getElem?_append_left hi]at h1
   rw[List.getElem?_append_left (by rw[<-h.plen];exact hi)]at h2
   obtain⟨g1,g2⟩:=h.ini i o' v h1 h2
   exact⟨g1,g2.imp fun a x q1 q2=>⟨hZ _ q1,q2⟩⟩
  ·rw[List.getElem?_append_right (by omega)]at h1
   rw[List.getElem?_append_right (by rw[<-h.plen];omega),<-h.plen]at h2
   cases h8:i - init.length with
   | succ m=>rw[h8]at h1;simp at h1
   | zero=>
    rw[h8]at h1 h2
    simp at h1 h2
    subst h1;subst h2
    exact encS_strs hl.2.1 hl.2.2 fun g' hg'=>⟨(hr.2 g' hg').1,fun e=>h.off g' e.symm hg'⟩
theorem grp_len (stays:List UInt8->List UInt8->Bool) (d:List (List UInt8 × List UInt8)):(grp stays d).length<=d.length/\∀ o∈grp stays d,o.paths.length<=d.length:=by
 have key:∀ (k:Nat) (d:List (List UInt8 × List UInt8)),d.length=k->(grp stays d).length<=d.length/\∀ o∈grp stays d,o.paths.length<=d.length:=by
  intro k
  induction k with
  | zero=>intro d hd;rw[List.length_eq_zero_iff.1 hd];simp[grp]
  | succ k ih=>
   intro d hd
   rcases List.eq_nil_or_concat d with rfl | ⟨r,c,rfl⟩
   ·simp at hd
   ·rw[List.concat_eq_append]at hd ⊢
    obtain⟨n,p⟩:=c
    obtain⟨h1,h2⟩:=ih r (by simpa using hd)
    rw[grp_snoc,List.length_append,List.length_singleton]
    split
    ·rcases List.eq_nil_or_concat (grp stays r) with h9 | ⟨q,o,h9⟩
     ·rw[h9,addP_nil]
      refine⟨by simp,fun o ho=>?_⟩
      rw[List.mem_singleton]at ho
      rw[ho];simp
     ·rw[List.concat_eq_append]at h9
      rw[h9]at h1 h2 ⊢
      by_cases hn:o.name=n
      ·subst hn
       rw[addP_same]
       refine⟨by simp at h1 ⊢;omega,fun x hx=>?_⟩
       rcases List.mem_append.1 hx with hx | hx
       ·have:=h2 x (by simp[hx]);omega
       ·rw[List.mem_singleton]at hx
        have:=h2 o (by simp)
        rw[hx];simp;omega
      ·rw[addP_new _ _ _ _ hn]
       refine⟨by simp at h1 ⊢;omega,fun x hx=>?_⟩
       rcases List.mem_append.1 hx with hx | hx
       ·have:=h2 x hx;omega
       ·rw[List.mem_singleton]at hx
        rw[hx];simp
    ·exact⟨by omega,fun o ho=>by have:=h2 o ho;omega⟩
 exact key _ d rfl
theorem kept1_enters:∀ args w,(callFunc 50 args).run Tryz.prog w=.ok (.enter 50 args) w:=enters_of Tryz.func50 (by kernel_rfl) rfl
theorem kept_sees {w0:World} {ok:Nat->Prop} {l:List Own} {vl:Value} {gs g:Nat} {lb:Array Value} {stays:List UInt8->List UInt8->Bool} (eg:∀ args w,(callFunc g args).run Tryz.prog w=.ok (.enter g args) w) (hgs:w0.cell? ⟨gs,0,none⟩=some (.func (.func g) #[] lb))
 (hst:∀ W n p,Below w0.heap.size w0 W->(n,p)∈allOf l->Calls Tryz.prog g (#[.string ⟨n.toArray⟩,.string ⟨p.toArray⟩]++lb) W fun e w'=>e=.returned (.bool (stays n p))/\Below W.heap.size W w')
 (hl:OwnsAre w0 ok l vl) (hok:∀ k,ok k->k < w0.heap.size) (hN:(allOf l).length<=4000000) (hP:∀ o∈l,∀ x∈o.paths,x.length<=maxLen) :
 SeesP w0 50 #[.pointer (some ⟨gs,0,none⟩),.pointer (some ⟨w0.heap.size,0,none⟩)] l ok vl (fun d F W=>KpI w0 (grp stays d) F W) where
 owns:=hl
 cells d F W hI a x h1 h2:=by
  obtain⟨_,_,_,_,_,_,-,h⟩:=hI
  exact(World.cell?_of_block (h.low.block _ (hok _ h1))).trans h2
 alloc d F W o hI:=by
  obtain⟨a1,a2,a3,a4,a5,a6,e,h⟩:=hI
  exact⟨a1,a2,a3,a4,a5,a6,e,h.alloc o⟩
 low d F G W hI hg:=by
  obtain⟨a1,a2,a3,a4,a5,a6,e,h⟩:=hI
  exact⟨a1,a2,a3,a4,a5,a6,e,h.lower hg⟩
 step d F W n p hI hpre:=by
  have hm:(n,p)∈allOf l:=hpre.subset (by simp)
  obtain⟨o,ho,rfl,hp⟩:=allOf_mem hm
  have hlen:=hpre.length_le
  rw[List.length_append]at hlen
  have hlow:Below w0.heap.size w0 W:=by
   obtain⟨_,_,_,_,_,_,-,h⟩:=hI
   exact h.low
  obtain⟨g1,g2⟩:=grp_len stays d
  have:=kept1_at w0 W gs g lb stays (grp stays d) F o.name p eg hI hgs (hP o ho p hp) (hst W o.name p hlow hm) (by omega) (fun x hx=>by have:=g2 x hx;omega)
  rw[<-grp_snoc]at this
  exact this
set_option maxRecDepth 100000 in
set_option maxHeartbeats 4000000 in
theorem kept_at (w:World) (ok:Nat->Prop) (l:List Own) (vl:Value) (g:Nat) (lb:Array Value) (stays:List UInt8->List UInt8->Bool) (eg:∀ args w,(callFunc g args).run Tryz.prog w=.ok (.enter g args) w)
 (hst:∀ W n p,Below w.heap.size w W->(n,p)∈allOf l->Calls Tryz.prog g (#[.string ⟨n.toArray⟩,.string ⟨p.toArray⟩]++lb) W fun e w'=>e=.returned (.bool (stays n p))/\Below W.heap.size W w')
 (hl:OwnsAre w ok l vl) (hr:Rises (l.map Own.name)) (hN:(allOf l).length<=4000000) (hP:∀ o∈l,∀ x∈o.paths,x.length<=maxLen) :
 Calls Tryz.prog 23 #[vl,.func (.func g) #[] lb] w fun e w'=>∃ a c,e=.returned (.slice a (keptF stays l).length c)/\OwnRow w' w.heap.size (keptF stays l) (.slice a (keptF stays l).length c)/\Below w.heap.size w w':=by
 have HL:=hidI hl.low
 obtain⟨la,lc,rfl⟩:=hl.form
 have ll:=hl.1
 unfold maxLen at ll
 have HR:=hidI (grp_kept (stays:=stays) hr)
 obtain⟨W1,hW1⟩:∃ W,W=w.alloc (.cells #[.func (.func g) #[] lb] 57):=⟨_,rfl⟩
 have B1:Hid (Below w.heap.size w W1):=hidI (by rw[hW1];exact bel_alloc _ _)
 have CS:Hid (W1.cell? ⟨w.heap.size,0,none⟩=some (.func (.func g) #[] lb)):=hidI (by
  have h9:W1.heap[w.heap.size]?=some (.cells #[.func (.func g) #[] lb] 57):=by rw[hW1];exact heap_alloc_new _ _
  simp[World.cell?,h9])
 have SZ:Hid (W1.heap.size=w.heap.size+1):=hidI (by rw[hW1];simp)
 have SEES:=hidI (kept_sees (w0:=W1) (gs:=w.heap.size) (stays:=stays) eg CS.out (fun W n p hb hm=>hst W n p (B1.out.trans (hb.mono B1.out.size)) hm) (HL.out.bel B1.out) (fun k hk=>by have:=hk.2;have:=SZ.out;omega) hN hP)
 have CALL:=hidI (eachPath_at W1 (W1.alloc (.cells #[.slice none 0 0] 26)) _ l _ _ _ _ (fun k=>k < W1.heap.size) kept1_enters SEES.out ⟨[],none,_,_,[],_,rfl,kpt_start W1⟩)
 have HW1:=hidI hW1
 clear hl hr hN hP hst hW1
 go_enter Tryz.func23,Tryz.ntmps23
 go_upto_region 1 with fail
 rw[<-HW1.out]
 go_upto_region 3 with (go_at_call 48;refine CALL.out.mono ?_;rintro e w7 ⟨rfl,hi7⟩;have I7:=hidI hi7;clear hi7)
 obtain⟨ov,r1,r2⟩:=KpI.row I7.out
 rw[HR.out]at r2
 have c0:w7.cell? ⟨W1.heap.size,0,none⟩=some ov:=by simp[World.cell?,r1]
 obtain⟨sa,sc,hsv⟩:∃ sa sc,ov=.slice sa (keptF stays l).length sc:=by
  obtain⟨pvs,-,h2,-⟩:=r2
  rcases h2.2 with⟨h9,h8⟩ | ⟨_,_,_,h9,-⟩
  ·exact⟨none,0,by rw[h8];exact h9⟩
  ·exact⟨_,_,h9⟩
 subst hsv
 have ROW:=hidI r2
 have LOW:Hid (Below w.heap.size w w7):=hidI (by
  obtain⟨_,_,_,_,_,_,-,h⟩:=I7.out
  exact B1.out.trans (h.low.mono B1.out.size))
 have S1:=hidI B1.out.size
 clear r1 r2
 go_wp2_with fail
 go_ret
 exact⟨sa,sc,rfl,ROW.out.base (by have:=S1.out;omega),LOW.out⟩
end Go.Proofs.YtmdemcjmcnfjmaaGreatDoor
namespace Go.Proofs.YtmdemcjmcnfjmaaGreatDoor
open Go.RowKit
theorem copy_row2 (w:World) (ty:TypeId) (g o dLen dCap:Nat) (a:Addr) (sLen sCap:Nat) (cur:Array Value) (t:TypeId) (cs:List Value)
 (hg:w.heap[g]?=some (.cells cur t (0,0))) (hn:cs.length=Nat.min sLen dLen * 2)
 (hsrc:∀ j v,cs[j]?=some v->w.cell? (a.add j)=some v) (hfit:o+cs.length<=cur.size) (h1:∀ v∈cs,v.oneCell'=true) :
 (Builtin.copy_ #[26,26] ty #[.slice (some ⟨g,o,none⟩) dLen dCap,.slice (some a) sLen sCap]).run Tryz.prog w =
  .ok (goInt (Nat.min sLen dLen)) (w.setRow g (cur.toList.take o++cs++cur.toList.drop (o+cs.length)).toArray):=by
 have hl:=run_loadCells_list (P:=Tryz.prog) w a cs hsrc
 have hst:=run_storeCells_at Tryz.prog g o t cs 0 cur w hg (by simpa using hfit) h1
 obtain⟨i0,hi,hz0,hz1,hz2⟩:=info_parts info41
 simp[Builtin.copy_,run_underlying Tryz.underlying26,Builtin.lenOf,Builtin.firstCells,sizeOf,typeInfo,hi,hz1,<-hn,hl,hst]
theorem oCells_take:∀ (os:List Own) (vs:List Value) (i:Nat),os.length=vs.length->oCells (os.take i) (vs.take i)=(oCells os vs).take (i * 2)
 | [],[],i,_=>by simp[oCells]
 | [],_ :: _,i,h=>by simp at h
 | _ :: _,[],i,h=>by simp at h
 | o :: os,v :: vs,0,_=>by simp[oCells]
 | o :: os,v :: vs,i+1,h=>by
  rw[List.take_succ_cons,List.take_succ_cons,oCells,oCells,oCells_take os vs i (by simpa using h),show (i+1) * 2=i * 2+1+1 by omega,List.take_succ_cons,List.take_succ_cons]
theorem oCells_drop:∀ (os:List Own) (vs:List Value) (i:Nat),os.length=vs.length->oCells (os.drop i) (vs.drop i)=(oCells os vs).drop (i * 2)
 | [],[],i,_=>by simp[oCells]
 | [],_ :: _,i,h=>by simp at h
 | _ :: _,[],i,h=>by simp at h
 | o :: os,v :: vs,0,_=>by simp
 | o :: os,v :: vs,i+1,h=>by
  rw[List.drop_succ_cons,List.drop_succ_cons,oCells,oCells_drop os vs i (by simpa using h),show (i+1) * 2=i * 2+1+1 by omega,List.drop_succ_cons,List.drop_succ_cons]
theorem oCells_append:∀ (a:List Own) (va:List Value) (b:List Own) (vb:List Value),a.length=va.length->oCells (a++b) (va++vb)=oCells a va++oCells b vb
 | [],[],b,vb,_=>rfl
 | [],_ :: _,b,vb,h=>by simp at h
 | _ :: _,[],b,vb,h=>by simp at h
 | o :: a,v :: va,b,vb,h=>by simp only[List.cons_append,oCells,oCells_append a va b vb (by simpa using h)]
theorem oCells_ins {os:List Own} {vs:List Value} {i:Nat} {o:Own} {v:Value} (h:os.length=vs.length):oCells (os.take i++o :: os.drop i) (vs.take i++v :: vs.drop i)=(oCells os vs).take (i * 2)++[.string ⟨o.name.toArray⟩,v]++(oCells os vs).drop (i * 2):=by
 rw[oCells_append _ _ _ _ (by simp[h]),oCells_take _ _ _ h]
 simp only[oCells,oCells_drop _ _ _ h]
 simp
theorem oCells_one:∀ (os:List Own) (vs:List Value),(∀ v∈vs,v.oneCell'=true)->∀ u∈oCells os vs,u.oneCell'=true
 | [],_,_,u,hu=>by simp[oCells]at hu
 | _ :: _,[],_,u,hu=>by simp[oCells]at hu
 | o :: os,v :: vs,h,u,hu=>by
  simp only[oCells,List.mem_cons]at hu
  rcases hu with rfl | rfl | hu
  ·rfl
  ·exact h _ (by simp)
  ·exact oCells_one os vs (fun x hx=>h x (by simp[hx])) u hu
theorem overlaps_no (w:World) (vb b off lb cb:Nat) (tA tB:TypeId) (kA kB:Nat) (hne:vb≠b) (hsa:w.shape? vb=some (tA,kA)) (hsb:w.shape? b=some (tB,kB)) (hkB:kB≠0) (hfa:w.frozen? ⟨vb,0,none⟩=false) (hfe:w.frozen? ⟨vb,kA,none⟩=false) :
 (callFunc 90 #[.slice (some ⟨vb,0,none⟩) 1 1,.slice (some ⟨b,off,none⟩) lb cb]).run Tryz.prog w=.ok (.value (.bool false)) w:=by
 rw[run_callFunc_extern Tryz.func90 (by kernel_rfl) (by kernel_rfl) (by kernel_rfl) (e:=Extern.SlicesOverlaps.overlaps #[26,26] #[4]) (by kernel_rfl),
  Lib.run_overlaps_apart w 26 4 41 Tryz.underlying26 2 Tryz.sizeOf41 ⟨vb,0,none⟩ ⟨b,off,none⟩ 1 1 lb cb hne tA tB kA kB hsa hsb hkB hfa hfe]
 rfl
end Go.Proofs.YtmdemcjmcnfjmaaGreatDoor
namespace Go.Proofs.YtmdemcjmcnfjmaaGreatDoor
open Go.RowKit
theorem min_one (n i:Nat) (h:i < n):Nat.min 1 (n+1 - i)=1:=by simp only[Nat.min_def];split <;> omega
theorem room_take {cur:List Value} {cells two:List Value} {n i c:Nat} (hs:cur.length=c * 2) (hx:cur.take (n * 2)=cells) (hl:cells.length=n * 2) (h2:two.length=2) (hi:i < n) (hroom:n+1<=c) :
 let a1:=cur.take ((i+1) * 2)++cells.drop (i * 2)++cur.drop ((i+1) * 2+(cells.drop (i * 2)).length)
 let a2:=a1.take (i * 2)++two++a1.drop (i * 2+two.length)
 a1.length=c * 2/\a2.length=c * 2/\a2.take ((n+1) * 2)=cells.take (i * 2)++two++cells.drop (i * 2):=by
 intro a1 a2
 have e1:(cur.take ((i+1) * 2)).length=(i+1) * 2:=by rw[List.length_take];omega
 have e2:(cells.drop (i * 2)).length=n * 2 - i * 2:=by rw[List.length_drop,hl]
 have l1:a1.length=c * 2:=by simp only[a1,List.length_append,List.length_drop,e1,hs,hl];omega
 have t1:a1.take (i * 2)=cells.take (i * 2):=by
  simp only[a1]
  rw[List.append_assoc,List.take_append_of_le_length (by rw[e1];omega),List.take_take,<-hx,List.take_take,Nat.min_eq_left (by omega),Nat.min_eq_left (by omega)]
 have t2:a1.drop (i * 2+two.length)=cells.drop (i * 2)++cur.drop ((i+1) * 2+(cells.drop (i * 2)).length):=by
  simp only[a1]
  rw[h2,List.append_assoc,show i * 2+2=(cur.take ((i+1) * 2)).length by rw[e1];omega,List.drop_left]
 have l2:a2.length=c * 2:=by
  simp only[a2,t1,t2,List.length_append,List.length_take,List.length_drop,hl,hs,h2];omega
 refine⟨l1,l2,?_⟩
 simp only[a2,t1,t2]
 rw[<-List.append_assoc,List.take_append_of_le_length (by simp only[List.length_append,List.length_take,List.length_drop,hl,h2];omega),List.take_of_length_le (by simp only[List.length_append,List.length_take,List.length_drop,hl,h2];omega)]
set_option maxRecDepth 100000 in
set_option maxHeartbeats 4000000 in
theorem insert_room (w:World) (B g n c i vb:Nat) (cur:Array Value) (cells:List Value) (name:List UInt8) (pa:Option Addr) (pn pc:Nat) (hi:i < n) (hroom:n+1<=c) (hc:c<=maxLen) (hBg:B<=g) (hg:w.heap[g]?=some (.cells cur 41 (0,0))) (hs:cur.size=c * 2) (hx:cur.toList.take (n * 2)=cells) (hl:cells.length=n * 2)
 (hv:w.heap[vb]?=some (.cells #[Value.string ⟨name.toArray⟩,Value.slice pa pn pc] 41)) (hvb:vb≠g) (h1:∀ u∈cells,u.oneCell'=true) :
 Calls Tryz.prog 62 #[.slice (some ⟨g,0,none⟩) n c,.int .i64 i,.slice (some ⟨vb,0,none⟩) 1 1] w fun e w'=>e=.returned (.slice (some ⟨g,0,none⟩) (n+1) c)/\w'.ownsRow B 41 2 (.slice (some ⟨g,0,none⟩) (n+1) c) (n+1) (cells.take (i * 2)++[Value.string ⟨name.toArray⟩,Value.slice pa pn pc]++cells.drop (i * 2))/\w.grownBy w' (some g):=by
 have hov:=fun off lb cb=>overlaps_no w vb g off lb cb _ _ 2 (c * 2) hvb (by simp[World.shape?,hv];rfl) (by simp[World.shape?,hg,hs];rfl) (by omega) (by simp[World.frozen?,hv]) (by simp[World.frozen?,hv])
 obtain⟨l1,l2,l3⟩:=room_take (cur:=cur.toList) (two:=[Value.string ⟨name.toArray⟩,Value.slice pa pn pc]) (by simpa using hs) hx hl rfl hi hroom
 have hcp1:∀ ty dc sc,(Builtin.copy_ #[26,26] ty #[.slice (some ⟨g,(i+1) * 2,none⟩) (n - i) dc,.slice (some ⟨g,i * 2,none⟩) (n+1 - i) sc]).run Tryz.prog w.drew=.ok (goInt (Nat.min (n+1 - i) (n - i))) (w.drew.setRow g (cur.toList.take ((i+1) * 2)++cells.drop (i * 2)++cur.toList.drop ((i+1) * 2+(cells.drop (i * 2)).length)).toArray):=fun ty dc sc=>
  copy_row2 w.drew ty g ((i+1) * 2) (n - i) dc ⟨g,i * 2,none⟩ (n+1 - i) sc cur _ (cells.drop (i * 2)) hg (by rw[List.length_drop,hl];simp only[Nat.min_def];split <;> omega)
   (fun j v hj=>by
    rw[List.getElem?_drop,<-hx,List.getElem?_take]at hj
    split at hj
    ·rw[Addr.add_lit]
     simp only[World.cell?,show w.drew.heap=w.heap from rfl,hg]
     simpa using hj
    ·cases hj)
   (by rw[List.length_drop,hl];omega) (fun v hv=>h1 v (List.mem_of_mem_drop hv))
 obtain⟨A1,hA1⟩:∃ A1,A1=(cur.toList.take ((i+1) * 2)++cells.drop (i * 2)++cur.toList.drop ((i+1) * 2+(cells.drop (i * 2)).length)):=⟨_,rfl⟩
 rw[<-hA1]at hcp1 l1 l2 l3
 have hgW:(w.drew.setRow g A1.toArray).heap[g]?=some (.cells A1.toArray 41 (0,0)):=setRow_heap w.drew g cur _ _ _ hg
 have hvW:(w.drew.setRow g A1.toArray).heap[vb]?=some (.cells #[Value.string ⟨name.toArray⟩,Value.slice pa pn pc] 41):=(setRow_other w.drew g vb _ hvb).trans hv
 have hcp2:∀ (W:World),(∀ k,W.heap[k]?=(w.drew.setRow g A1.toArray).heap[k]?)->∀ ty dc,(Builtin.copy_ #[26,26] ty #[.slice (some ⟨g,i * 2,none⟩) (n+1 - i) dc,.slice (some ⟨vb,0,none⟩) 1 1]).run Tryz.prog W=.ok (goInt (Nat.min 1 (n+1 - i))) (W.setRow g (A1.take (i * 2)++[Value.string ⟨name.toArray⟩,Value.slice pa pn pc]++A1.drop (i * 2+2)).toArray):=fun W hW ty dc=>
  copy_row2 W ty g (i * 2) (n+1 - i) dc ⟨vb,0,none⟩ 1 1 A1.toArray _ [Value.string ⟨name.toArray⟩,Value.slice pa pn pc] ((hW g).trans hgW) (by rw[min_one n i hi];rfl)
   (fun j v hj=>by
    rw[Addr.add_lit]
    simp only[World.cell?,hW,hvW]
    simpa using hj)
   (by simp only[List.length_cons,List.length_nil,List.size_toArray,l1];omega) (by intro u hu;simp only[List.mem_cons,List.not_mem_nil,or_false]at hu;rcases hu with rfl | rfl <;> rfl)
 have HF:Hid (∀ W:World,W=(w.drew.setRow g A1.toArray).drew.setRow g (A1.take (i * 2)++[Value.string ⟨name.toArray⟩,Value.slice pa pn pc]++A1.drop (i * 2+2)).toArray\/W=(w.drew.setRow g A1.toArray).setRow g (A1.take (i * 2)++[Value.string ⟨name.toArray⟩,Value.slice pa pn pc]++A1.drop (i * 2+2)).toArray->W.ownsRow B 41 2 (.slice (some ⟨g,0,none⟩) (n+1) c) (n+1) (cells.take (i * 2)++[Value.string ⟨name.toArray⟩,Value.slice pa pn pc]++cells.drop (i * 2))/\w.grownBy W (some g)):=hidI (by
  intro W hW
  have e0:W.heap[g]?=some (.cells (A1.take (i * 2)++[Value.string ⟨name.toArray⟩,Value.slice pa pn pc]++A1.drop (i * 2+2)).toArray 41 (0,0)):=by
   rcases hW with rfl | rfl
   ·exact setRow_heap _ g _ _ _ _ hgW
   ·exact setRow_heap _ g _ _ _ _ hgW
  refine⟨⟨?_,.inr ⟨g,c,_,rfl,hBg,e0,hroom,hc,by simpa using l2,by simpa using l3⟩⟩,?_⟩
  ·simp only[List.length_append,List.length_take,List.length_drop,hl,List.length_cons,List.length_nil];omega
  ·rcases hW with rfl | rfl <;> refine⟨rfl,rfl,rfl,by simp[World.setRow],fun k hk hne=>?_⟩
   ·have:k≠g:=fun e=>hne (by rw[e])
    exact(setRow_other _ g k _ this).trans (setRow_other w.drew g k _ this)
   ·have:k≠g:=fun e=>hne (by rw[e])
    exact(setRow_other _ g k _ this).trans (setRow_other w.drew g k _ this))
 have q0:((i:Int) == (n:Int))=false:=by rw[beq_eq_false_iff_ne];omega
 have q1:(0:Int)<=(i:Int):=by omega
 have q2:(i:Int)<=(n:Int):=by omega
 have q3:¬(c:Int) < (n:Int)+1:=by omega
 have q4:(n:Int)+1<=(c:Int):=by omega
 have q5:(0:Int)<=(n:Int)+1:=by omega
 have q6:(i:Int)+1<=(n:Int)+1:=by omega
 have q7:(0:Int)<=(i:Int)+1:=by omega
 unfold maxLen at hc
 have hcl:(c:Int)<=9223372036854775807:=by omega
 have hw1:IntKind.i64.wrap ((i:Int)+1)=(i:Int)+1:=by rw[IntKind.wrap_i64];omega
 have htn:((i:Int)+1).toNat=i+1:=by omega
 have q8:(i:Int)<=(n:Int)+1:=by omega
 have hc1:=hcp1 3 (c - (i+1)) (c - i)
 have hc2:=hcp2 (w.drew.setRow g A1.toArray) (fun _=>rfl) 3 (c - i)
 have z1:¬(c=i):=by omega
 have z2:¬(c=i+1):=by omega
 clear hcp1 hcp2 hgW hvW l1 l2 l3 hA1 hx hl h1 hv hg hs
 go_enter Tryz.func62,Tryz.ntmps62
 go_wp2_with (simp only[hov])
 go_region
 go_wp2_with (simp only[hc2])
 go_ret
 exact⟨rfl,HF.out _ (.inr (by simp))⟩
end Go.Proofs.YtmdemcjmcnfjmaaGreatDoor
namespace Go.Proofs.YtmdemcjmcnfjmaaGreatDoor
open Go.RowKit
theorem grow_take {R cells two Z:List Value} {n i G:Nat} (hR:R=cells.take (i * 2)++Z) (hZ:Z.length=(G - i) * 2) (hl:cells.length=n * 2) (h2:two.length=2) (hi:i < n) (hG:n+1<=G) :
 let a1:=R.take (i * 2)++two++R.drop (i * 2+two.length)
 let a2:=a1.take ((i+1) * 2)++cells.drop (i * 2)++a1.drop ((i+1) * 2+(cells.drop (i * 2)).length)
 R.length=G * 2/\a1.length=G * 2/\a2.length=G * 2/\a2.take ((n+1) * 2)=cells.take (i * 2)++two++cells.drop (i * 2):=by
 intro a1 a2
 have e1:(cells.take (i * 2)).length=i * 2:=by rw[List.length_take];omega
 have l0:R.length=G * 2:=by rw[hR,List.length_append,e1,hZ];omega
 have t1:R.take (i * 2)=cells.take (i * 2):=by rw[hR,List.take_append_of_le_length (by omega),List.take_of_length_le (by omega)]
 have l1:a1.length=G * 2:=by simp only[a1,t1,List.length_append,List.length_drop,e1,l0,h2];omega
 have t2:a1.take ((i+1) * 2)=cells.take (i * 2)++two:=by
  simp only[a1,t1]
  rw[List.take_append_of_le_length (by rw[List.length_append];omega),List.take_of_length_le (by rw[List.length_append];omega)]
 have l2:a2.length=G * 2:=by simp only[a2,t2,List.length_append,List.length_drop,e1,h2,l1,hl];omega
 refine⟨l0,l1,l2,?_⟩
 simp only[a2,t2]
 rw[List.take_append_of_le_length (by simp only[List.length_append,List.length_drop,e1,hl,h2];omega),List.take_of_length_le (by simp only[List.length_append,List.length_drop,e1,hl,h2];omega)]
set_option maxRecDepth 100000 in
set_option maxHeartbeats 4000000 in
theorem insert_none (w:World) (B g n c i vb:Nat) (cur:Array Value) (cells:List Value) (name:List UInt8) (pa:Option Addr) (pn pc:Nat) (hi:i < n) (hnc:n<=c) (hroom:c < n+1) (hn:n<=4000000) (hB:B<=w.heap.size) (hg:w.heap[g]?=some (.cells cur 41 (0,0))) (hx:cur.toList.take (n * 2)=cells) (hl:cells.length=n * 2)
 (hv:w.heap[vb]?=some (.cells #[.string ⟨name.toArray⟩,.slice pa pn pc] 41)) (h1:∀ u∈cells,u.oneCell'=true) :
 Calls Tryz.prog 62 #[.slice (some ⟨g,0,none⟩) n c,.int .i64 i,.slice (some ⟨vb,0,none⟩) 1 1] w fun e w'=>∃ G,e=.returned (.slice (some ⟨w.heap.size,0,none⟩) (n+1) G)/\w'.ownsRow B 41 2 (.slice (some ⟨w.heap.size,0,none⟩) (n+1) G) (n+1) (cells.take (i * 2)++[Value.string ⟨name.toArray⟩,Value.slice pa pn pc]++cells.drop (i * 2))/\w.grownBy w' none:=by
 obtain⟨i0,hi0,hz0,hz1,hz2⟩:=info_parts info41
 have hgl:=(Array.getElem?_eq_some_iff.1 hg).1
 have hvl:=(Array.getElem?_eq_some_iff.1 hv).1
 have hcell:∀ j v,cells[j]?=some v->w.cell? ⟨g,j,none⟩=some v:=fun j v hj=>by
  rw[<-hx,List.getElem?_take]at hj
  split at hj
  ·simp only[World.cell?,hg]
   simpa using hj
  ·cases hj
 have hold:(Builtin.firstCells i0.size i (.slice (some ⟨g,0,none⟩) i c)).run Tryz.prog w.drew=.ok (cells.take (i * 2)).toArray w.drew:=by
  rw[hz1]
  exact run_firstCells_some w.drew 2 i ⟨g,0,none⟩ i c (cells.take (i * 2)) (by rw[List.length_take];omega) (fun j v hj=>by
   rw[Addr.add_lit,Nat.zero_add]
   rw[List.getElem?_take]at hj
   split at hj
   ·exact hcell j v hj
   ·cases hj)
 have hik:i+(n+1 - i)=n+1:=by omega
 have hkk:(n:Int)+1 - (i:Int)=((n+1 - i:Nat):Int):=by omega
 have hrz:=Lib.run_append_grow_zeros w 26 3 26 41 i0 _ .i64 .i64 Tryz.underlying26 Tryz.underlying3 hi0 hz0 (some ⟨g,0,none⟩) i c (cells.take (i * 2)) hold (n+1 - i) (by omega) (by omega) (by omega) (by omega) (by rw[hz2];omega) (by rw[hz2,hik];exact growslice_fits hroom (by omega))
 rw[hik,<-hkk]at hrz
 have hGn:=grownCap_ge w (n+1) c 41
 have hGm:=grownCap_le_maxLen w (n+1) c 41 (by unfold maxLen;omega)
 obtain⟨G,hG⟩:∃ G,G=grownCap w (n+1) c 41:=⟨_,rfl⟩
 rw[<-hG]at hrz hGn hGm
 obtain⟨Z,hZ,hZl⟩:∃ Z:List Value,(Builtin.zeroCells (Value.agg #[.string ⟨#[]⟩,.slice none 0 0]).cells (n+1 - i)).toList++(Builtin.zeroCells (Value.agg #[.string ⟨#[]⟩,.slice none 0 0]).cells (G - (n+1))).toList=Z/\Z.length=(G - i) * 2:=⟨_,rfl,by
  simp only[List.length_append,Array.length_toList,size_zeroCells]
  have:(Value.agg #[.string ⟨#[]⟩,.slice none 0 0]).cells.size=2:=by rfl
  rw[this];omega⟩
 obtain⟨R,hR⟩:∃ R:List Value,R=cells.take (i * 2)++Z:=⟨_,rfl⟩
 obtain⟨l0,l1,l2,l3⟩:=grow_take (two:=[Value.string ⟨name.toArray⟩,Value.slice pa pn pc]) hR hZl hl rfl hi hGn
 have hRR:(cells.take (i * 2)).toArray++Builtin.zeroCells (Value.agg #[.string ⟨#[]⟩,.slice none 0 0]).cells (n+1 - i)++Builtin.zeroCells (Value.agg #[.string ⟨#[]⟩,.slice none 0 0]).cells (G - (n+1))=R.toArray:=by
  apply Array.toList_inj.1
  rw[hR,<-hZ]
  simp
 rw[hRR]at hrz
 obtain⟨A1,hA1⟩:∃ A1,A1=R.take (i * 2)++[Value.string ⟨name.toArray⟩,Value.slice pa pn pc]++R.drop (i * 2+2):=⟨_,rfl⟩
 have e2:[Value.string ⟨name.toArray⟩,Value.slice pa pn pc].length=2:=rfl
 rw[e2,<-hA1]at l1 l2 l3
 have hgW:∀ k,k < w.heap.size->(w.drew.alloc (.cells R.toArray 41)).heap[k]?=w.heap[k]?:=fun k hk=>heap_alloc_old w.drew _ hk
 have hnW:(w.drew.alloc (.cells R.toArray 41)).heap[w.heap.size]?=some (.cells R.toArray 41 (0,0)):=heap_alloc_new w.drew _
 have hcpA:∀ (W:World),(∀ k,W.heap[k]?=(w.drew.alloc (.cells R.toArray 41)).heap[k]?)->∀ ty dc,(Builtin.copy_ #[26,26] ty #[.slice (some ⟨w.heap.size,i * 2,none⟩) (n+1 - i) dc,.slice (some ⟨vb,0,none⟩) 1 1]).run Tryz.prog W=.ok (goInt (Nat.min 1 (n+1 - i))) (W.setRow w.heap.size A1.toArray):=fun W hW ty dc=>by
  rw[hA1]
  exact copy_row2 W ty w.heap.size (i * 2) (n+1 - i) dc ⟨vb,0,none⟩ 1 1 R.toArray _ [.string ⟨name.toArray⟩,.slice pa pn pc] ((hW _).trans hnW) (by rw[min_one n i hi];rfl)
   (fun j v hj=>by
    rw[Addr.add_lit]
    simp only[World.cell?,hW,hgW vb hvl,hv]
    simpa using hj)
   (by simp only[List.length_cons,List.length_nil,List.size_toArray,l0];omega) (by intro u hu;simp only[List.mem_cons,List.not_mem_nil,or_false]at hu;rcases hu with rfl | rfl <;> rfl)
 have hcpB:∀ (W W0:World),(∀ k,W0.heap[k]?=(w.drew.alloc (.cells R.toArray 41)).heap[k]?)->(∀ k,W.heap[k]?=(W0.setRow w.heap.size A1.toArray).heap[k]?)->∀ ty dc sc,(Builtin.copy_ #[26,26] ty #[.slice (some ⟨w.heap.size,(i+1) * 2,none⟩) (n - i) dc,.slice (some ⟨g,i * 2,none⟩) (n - i) sc]).run Tryz.prog W=.ok (goInt (Nat.min (n - i) (n - i))) (W.setRow w.heap.size (A1.take ((i+1) * 2)++cells.drop (i * 2)++A1.drop ((i+1) * 2+(cells.drop (i * 2)).length)).toArray):=fun W W0 hW0 hW ty dc sc=>
  copy_row2 W ty w.heap.size ((i+1) * 2) (n - i) dc ⟨g,i * 2,none⟩ (n - i) sc A1.toArray _ (cells.drop (i * 2)) ((hW _).trans (setRow_heap W0 _ R.toArray _ _ _ ((hW0 _).trans hnW))) (by rw[List.length_drop,hl];simp only[Nat.min_def];split <;> omega)
   (fun j v hj=>by
    rw[List.getElem?_drop]at hj
    have:=hcell _ v hj
    rw[Addr.add_lit]
    simp only[World.cell?]at this ⊢
    rw[hW,setRow_other W0 w.heap.size g _ (Nat.ne_of_lt hgl),hW0,hgW g hgl]
    exact this)
   (by simp only[List.length_drop,hl,List.size_toArray,l1];omega) (fun v hv=>h1 v (List.mem_of_mem_drop hv))
 have HF:Hid (∀ (W W0 W1:World),(∀ k,W0.heap[k]?=(w.drew.alloc (.cells R.toArray 41)).heap[k]?)->(∀ k,W1.heap[k]?=(W0.setRow w.heap.size A1.toArray).heap[k]?)->W=W1.setRow w.heap.size (A1.take ((i+1) * 2)++cells.drop (i * 2)++A1.drop ((i+1) * 2+(cells.drop (i * 2)).length)).toArray->w.os=W.os->w.tape=W.tape->w.output=W.output->w.heap.size<=W.heap.size->W.ownsRow B 41 2 (.slice (some ⟨w.heap.size,0,none⟩) (n+1) G) (n+1) (cells.take (i * 2)++[Value.string ⟨name.toArray⟩,Value.slice pa pn pc]++cells.drop (i * 2))/\w.grownBy W none):=hidI (by
  intro W W0 W1 hW0 hW1 hW g1 g2 g3 g4
  have e1:=(hW1 w.heap.size).trans (setRow_heap W0 w.heap.size R.toArray A1.toArray _ _ ((hW0 _).trans hnW))
  have e0:=setRow_heap W1 w.heap.size A1.toArray (A1.take ((i+1) * 2)++cells.drop (i * 2)++A1.drop ((i+1) * 2+(cells.drop (i * 2)).length)).toArray _ _ e1
  rw[<-hW]at e0
  refine⟨⟨?_,.inr ⟨w.heap.size,G,_,rfl,hB,e0,hGn,hGm,by simpa using l2,by simpa using l3⟩⟩,⟨g1.symm,g2.symm,g3.symm,g4,fun k hk _=>?_⟩⟩
  ·simp only[List.length_append,List.length_take,List.length_drop,hl,List.length_cons,List.length_nil];omega
  ·have:k≠w.heap.size:=by omega
   rw[hW,setRow_other W1 _ k _ this,hW1,setRow_other W0 _ k _ this,hW0,hgW k hk])
 unfold maxLen at hGm
 have HA:=hidI hcpA
 have HB2:=hidI hcpB
 have q0:((i:Int) == (n:Int))=false:=by rw[beq_eq_false_iff_ne];omega
 have q1:(0:Int)<=(i:Int):=by omega
 have q2:(i:Int)<=(n:Int):=by omega
 have q3:(c:Int) < (n:Int)+1:=by omega
 have q8:(i:Int)<=(c:Int):=by omega
 have hw1:IntKind.i64.wrap ((i:Int)+1)=(i:Int)+1:=by rw[IntKind.wrap_i64];omega
 have hw2:IntKind.i64.wrap ((n:Int)+1 - (i:Int))=(n:Int)+1 - (i:Int):=by rw[IntKind.wrap_i64];omega
 have htn:((i:Int)+1).toNat=i+1:=by omega
 have q6:(i:Int)+1<=(n:Int)+1:=by omega
 have q7:(0:Int)<=(i:Int)+1:=by omega
 have q9:(i:Int)<=(n:Int)+1:=by omega
 have hGi:¬(G=i):=by omega
 have hGim:¬(G=i+1):=by omega
 have hci:¬(c=i):=by omega
 have hcl:(c:Int)<=9223372036854775807:=by omega
 have hrz2:=hidI hrz
 clear hcpA hcpB hA1 hR hRR hZ hZl l0 l1 l2 l3 e2 hgW hnW hx hl h1 hg hv hold hik hkk hz0 hz1 hz2 hi0 hcell hrz hG
 go_enter Tryz.func62,Tryz.ntmps62
 go_wp2_with (at_builtin;refine Lib.wpList_append_run _ rfl _ _ _ _ rfl (.slice (some ⟨g,0,none⟩) i c) (.int .i64 ((n:Int)+1 - (i:Int))) rfl rfl _ _ hrz2.out ?_)
 have hA:=HA.out ((w.alloc (.cells R.toArray 41)).drew) (fun _=>rfl) 3 (G - i)
 go_wp2_with (simp only[hA])
 have hB9:=HB2.out (((w.alloc (.cells R.toArray 41)).drew.setRow w.heap.size A1.toArray).drew) _ (fun _=>rfl) (fun _=>rfl) 3 (G - (i+1)) (c - i)
 go_region
 go_wp2_with fail
 go_ret
 exact⟨G,rfl,HF.out _ ((w.alloc (.cells R.toArray 41)).drew) (((w.alloc (.cells R.toArray 41)).drew.setRow w.heap.size A1.toArray).drew) (fun _=>rfl) (fun _=>rfl) (by simp) rfl rfl rfl (by simp[World.setRow])⟩
end Go.Proofs.YtmdemcjmcnfjmaaGreatDoor
namespace Go.Proofs.YtmdemcjmcnfjmaaGreatDoor
open Go.RowKit
set_option maxRecDepth 100000 in
set_option maxHeartbeats 4000000 in
theorem insert_end (w:World) (B n vb:Nat) (r:Value) (cells:List Value) (name:List UInt8) (pa:Option Addr) (pn pc:Nat) (h:w.ownsRow B 41 2 r n cells) (hv:w.heap[vb]?=some (.cells #[.string ⟨name.toArray⟩,.slice pa pn pc] 41)) (hn:n<=4000000) (hB:B<=w.heap.size) :
 Calls Tryz.prog 62 #[r,.int .i64 n,.slice (some ⟨vb,0,none⟩) 1 1] w fun e w'=>∃ g cap,e=.returned (.slice (some ⟨g,0,none⟩) (n+1) cap)/\w'.ownsRow B 41 2 (.slice (some ⟨g,0,none⟩) (n+1) cap) (n+1) (cells++[.string ⟨name.toArray⟩,.slice pa pn pc])/\w.grownBy w' r.ownBlock/\(r.ownBlock=some g\/w.heap.size=g):=by
 obtain⟨g,cap,W',hR,ho,hg,hgg⟩:=run_pushO h hv hn hB 26
 have HR:=hidI hR
 have HO:=hidI ho
 have HG:=hidI hg
 have HH:=hidI hgg
 have q1:((n:Int) == (n:Int))=true:=by simp
 rcases h.2 with⟨rfl,h0⟩ | ⟨g0,c0,cur,rfl,h1,h2,h3,h4,h5,h6⟩
 ·subst h0
  clear hR ho hg h hgg
  go_enter Tryz.func62,Tryz.ntmps62
  go_wp2_with (at_builtin;go_must (refine Lib.wpList_append_run _ rfl _ _ _ _ rfl (.slice none 0 0) (.slice (some ⟨vb,0,none⟩) 1 1) rfl rfl _ _ HR.out ?_);refine Hid.out ?_)
  refine hidI ?_
  go_wp2_with fail
  go_ret
  exact⟨g,cap,rfl,HO.out,HG.out,HH.out⟩
 ·unfold maxLen at h4
  have x1:(n:Int)<=(c0:Int):=by omega
  have x2:(0:Int)<=(n:Int):=by omega
  have x3:(n:Int)<=9223372036854775807:=by omega
  clear hR ho hg h h1 h2 h5 h6 hgg
  go_enter Tryz.func62,Tryz.ntmps62
  go_wp2_with (at_builtin;go_must (refine Lib.wpList_append_run _ rfl _ _ _ _ rfl (.slice (some ⟨g0,0,none⟩) n c0) (.slice (some ⟨vb,0,none⟩) 1 1) rfl rfl _ _ HR.out ?_);refine Hid.out ?_)
  all_goals
   refine hidI ?_
   go_wp2_with fail
   go_ret
   exact⟨g,cap,rfl,HO.out,HG.out,HH.out⟩
end Go.Proofs.YtmdemcjmcnfjmaaGreatDoor
namespace Go.Proofs.YtmdemcjmcnfjmaaGreatDoor
open Go.RowKit
theorem placeO_at {l:List Own} {who:List UInt8} (h:Rises (l.map Own.name)) (hc:(l.map Own.name).contains who=true):∃ hi:placeO l who < l.length,l[placeO l who].name=who/\pathsOfF l who=l[placeO l who].paths:=by
 rw[List.contains_iff_mem,List.mem_map]at hc
 obtain⟨o,ho,rfl⟩:=hc
 obtain⟨h1,h2⟩:=count_split l o.name h
 have hin:o∈l.drop (placeO l o.name):=by
  rw[<-List.take_append_drop (placeO l o.name) l,List.mem_append]at ho
  rcases ho with ho | ho
  ·have:=h1 o ho;rw[less_irrefl]at this;cases this
  ·exact ho
 have hi:placeO l o.name < l.length:=by
  apply Classical.byContradiction
  intro h9
  rw[List.drop_eq_nil_of_le (by omega)]at hin;cases hin
 have hfirst:l[placeO l o.name]∈l.drop (placeO l o.name):=(List.drop_eq_getElem_cons hi) ▸ List.mem_cons_self
 have hname:l[placeO l o.name].name=o.name:=by
  obtain⟨j,hj,e⟩:=List.getElem_of_mem hin
  rw[List.getElem_drop]at e
  cases j with
  | zero=>simp only[Nat.add_zero]at e;rw[e]
  | succ j=>
   have hlt:placeO l o.name+(j+1) < l.length:=by rw[List.length_drop]at hj;omega
   have:=List.pairwise_iff_getElem.1 h (placeO l o.name) (placeO l o.name+(j+1)) (by simpa using hi) (by simpa using hlt) (by omega)
   rw[List.getElem_map,List.getElem_map,e,h2 _ hfirst]at this
   cases this
 refine⟨hi,hname,?_⟩
 have:=paths_of h (List.getElem_mem hi)
 rwa [hname]at this
theorem placeO_not {l:List Own} {who:List UInt8} (hc:(l.map Own.name).contains who=false):pathsOfF l who=[]:=paths_none fun o ho e=>by
 rw[Bool.eq_false_iff]at hc
 exact hc (by rw[List.contains_iff_mem];exact List.mem_map.2 ⟨o,ho,e⟩)
set_option maxRecDepth 100000 in
set_option maxHeartbeats 4000000 in
theorem pathsOf_at (w:World) (ok:Nat->Prop) (l:List Own) (v:Value) (who:List UInt8) (h:OwnsAre w ok l v) (hr:Rises (l.map Own.name)) (hn:l.length < 4611686018427387904) :
 Calls Tryz.prog 28 #[v,.string ⟨who.toArray⟩] w fun e w'=>∃ a c,e=.returned (.slice a (pathsOfF l who).length c)/\StrsAre w' ok (pathsOfF l who) (.slice a (pathsOfF l who).length c)/\Below w.heap.size w w':=by
 have C:=hidI (find_owner w ok l v who h hr hn)
 have H:=hidI h
 obtain⟨a,c,rfl⟩:=h.form
 cases hc:(l.map Own.name).contains who with
 | false=>
  have R:=hidI (placeO_not hc)
  rw[hc]at C
  clear hc h hr
  go_enter Tryz.func28,Tryz.ntmps28
  go_wp2_with (go_at_call 61;refine C.out.mono ?_;rintro e w1 ⟨rfl,hb⟩;have B1:=hidI hb;clear hb)
  go_ret
  exact⟨none,0,by rw[R.out];rfl,by rw[R.out];exact⟨by simp,.inl ⟨rfl,none,rfl⟩⟩,B1.out⟩
 | true=>
  obtain⟨hi,-,hp⟩:=placeO_at hr hc
  rw[hc]at C
  obtain⟨b,off,pa,pc,rfl,j1,j2,k1,k2,k3,k4⟩:=h.at hi
  have ll:=h.1
  unfold maxLen at ll
  obtain⟨i,hie⟩:∃ i,placeO l who=i:=⟨_,rfl⟩
  rw[<-hp]at k2 k3
  have K2:Hid (∀ W,Below w.heap.size w W->W.cell? ⟨b,off+i * 2+1,none⟩=some (.slice pa (pathsOfF l who).length pc)):=hidI (fun W hW=>by rw[<-hie];exact cell_bel hW k2)
  have K3:=hidI k3
  have x1:(i:Int) < (l.length:Int):=by omega
  have x2:(0:Int)<=(i:Int):=by omega
  rw[hie]at C
  clear hc h hr hp k1 k2 k3 k4 hi hie
  go_enter Tryz.func28,Tryz.ntmps28
  go_wp2_with (go_at_call 61;refine C.out.mono ?_;rintro e w1 ⟨rfl,hb⟩;have B1:=hidI hb;have q9:=K2.out _ hb;clear hb)
  go_ret
  exact⟨pa,pc,rfl,K3.out.imp fun a x g1 g2=>⟨g1,cell_bel B1.out g2⟩,B1.out⟩
end Go.Proofs.YtmdemcjmcnfjmaaGreatDoor
namespace Go.Proofs.YtmdemcjmcnfjmaaGreatDoor
open Go.RowKit
theorem insert_at (w:World) (B n i vb:Nat) (r:Value) (cells:List Value) (name:List UInt8) (pa:Option Addr) (pn pc:Nat) (h:w.ownsRow B 41 2 r n cells) (hv:w.heap[vb]?=some (.cells #[.string ⟨name.toArray⟩,.slice pa pn pc] 41)) (hi:i<=n) (hn:n<=4000000) (hB:B<=w.heap.size) (hvb:∀ g,r.ownBlock=some g->vb≠g) (h1:∀ u∈cells,u.oneCell'=true) :
 Calls Tryz.prog 62 #[r,.int .i64 i,.slice (some ⟨vb,0,none⟩) 1 1] w fun e w'=>∃ g cap,e=.returned (.slice (some ⟨g,0,none⟩) (n+1) cap)/\w'.ownsRow B 41 2 (.slice (some ⟨g,0,none⟩) (n+1) cap) (n+1) (cells.take (i * 2)++[Value.string ⟨name.toArray⟩,Value.slice pa pn pc]++cells.drop (i * 2))/\w.grownBy w' r.ownBlock:=by
 by_cases he:i=n
 ·subst he
  refine(insert_end w B i vb r cells name pa pn pc h hv hn hB).mono ?_
  rintro e w' ⟨g,cap,rfl,h2,h3,-⟩
  refine⟨g,cap,rfl,?_,h3⟩
  rw[List.take_of_length_le (by rw[h.1];omega),List.drop_eq_nil_of_le (by rw[h.1];omega),List.append_nil]
  exact h2
 ·rcases h.2 with⟨rfl,h0⟩ | ⟨g,c,cur,rfl,g1,g2,g3,g4,g5,g6⟩
  ·omega
  ·by_cases hroom:n+1<=c
   ·refine(insert_room w B g n c i vb cur cells name pa pn pc (by omega) hroom g4 g1 g2 g5 g6 h.1 hv (hvb g rfl) h1).mono ?_
    rintro e w' ⟨rfl,h2,h3⟩
    exact⟨g,c,rfl,h2,h3⟩
   ·refine(insert_none w B g n c i vb cur cells name pa pn pc (by omega) g3 (by omega) hn hB g2 g6 h.1 hv h1).mono ?_
    rintro e w' ⟨G,rfl,h2,h3⟩
    exact⟨_,G,rfl,h2,h3.os,h3.tape,h3.output,h3.size,fun k hk _=>h3.block k hk (by simp)⟩
theorem ins_pairs {os:List Own} {pvs:List Value} {i:Nat} {o:Own} {v:Value} {P:Own->Value->Prop} (hl:os.length=pvs.length) (hi:i<=os.length) (hP:∀ (j:Nat) (x:Own) (u:Value),os[j]?=some x->pvs[j]?=some u->P x u) (ho:P o v) :
 ∀ (j:Nat) (x:Own) (u:Value),(os.take i++o :: os.drop i)[j]?=some x->(pvs.take i++v :: pvs.drop i)[j]?=some u->P x u:=by
 intro j x u hx hu
 have e1:(os.take i).length=i:=by rw[List.length_take];omega
 have e2:(pvs.take i).length=i:=by rw[List.length_take];omega
 by_cases h1:j < i
 ·rw[List.getElem?_append_left (by omega),List.getElem?_take_of_lt h1]at hx hu
  exact hP j x u hx hu
 ·rw[List.getElem?_append_right (by omega)]at hx hu
  rw[e1]at hx
  rw[e2]at hu
  rcases hd:j - i with _ | d
  ·rw[hd]at hx hu
   simp only[List.getElem?_cons_zero,Option.some.injEq]at hx hu
   subst hx;subst hu;exact ho
  ·rw[hd]at hx hu
   simp only[List.getElem?_cons_succ,List.getElem?_drop]at hx hu
   exact hP _ x u hx hu
theorem ownRow_ins {w w':World} {B i g cap:Nat} {os:List Own} {pvs:List Value} {r:Value} {o:Own} {pa:Option Addr} {pc:Nat} {okp:Nat->Prop} (h1:os.length=pvs.length)
 (h3:∀ (i:Nat) (o:Own) (v:Value),os[i]?=some o->pvs[i]?=some v->(∃ a c,v=.slice a o.paths.length c)/\StrsAre w (fun k=>B<=k/\some k≠r.ownBlock) o.paths v) (hi:i<=os.length) (hn:∀ o∈os,o.name.length<=maxLen) (hno:o.name.length<=maxLen)
 (ho:StrsAre w okp o.paths (.slice pa o.paths.length pc)) (hoff:∀ k,okp k->some k≠r.ownBlock) (hrow:w'.ownsRow B 41 2 (.slice (some ⟨g,0,none⟩) (os.length+1) cap) (os.length+1) ((oCells os pvs).take (i * 2)++[Value.string ⟨o.name.toArray⟩,Value.slice pa o.paths.length pc]++(oCells os pvs).drop (i * 2))) (hg:w.grownBy w' r.ownBlock) :
 OwnsAre w' (fun k=>B<=k\/okp k) (os.take i++o :: os.drop i) (.slice (some ⟨g,0,none⟩) (os.take i++o :: os.drop i).length cap):=by
 have hlen:(os.take i++o :: os.drop i).length=os.length+1:=by simp only[List.length_append,List.length_cons,List.length_take,List.length_drop];omega
 have hlenv:(pvs.take i++.slice pa o.paths.length pc :: pvs.drop i).length=os.length+1:=by simp only[List.length_append,List.length_cons,List.length_take,List.length_drop];omega
 have hp:=ins_pairs (P:=fun x u=>x.name.length<=maxLen/\(∃ a c,u=.slice a x.paths.length c)/\StrsAre w' (fun k=>B<=k\/okp k) x.paths u) (o:=o) (v:=.slice pa o.paths.length pc) h1 hi
  (fun j x u hx hu=>⟨hn x (List.mem_of_getElem? hx),(h3 j x u hx hu).1,(h3 j x u hx hu).2.imp fun a y q1 q2=>⟨.inl q1.1,hg.cell q2 q1.2⟩⟩)
  ⟨hno,⟨_,_,rfl⟩,ho.imp fun a y q1 q2=>⟨.inr q1,hg.cell q2 (hoff _ q1)⟩⟩
 rw[<-oCells_ins h1]at hrow
 obtain⟨g1,g3,g4⟩:B<=g/\os.length+1<=cap/\cap<=maxLen:=by
  rcases hrow.2 with⟨h0,-⟩ | ⟨g',cap',cur,e,q1,q2,q3,q4,q5,q6⟩
  ·cases h0
  ·cases e;exact⟨q1,q3,q4⟩
 refine⟨by rw[hlen];omega,.inr ⟨g,0,cap,rfl,by rw[hlen];exact g3,g4,fun j x hx=>?_⟩⟩
 obtain⟨hj,-⟩:=List.getElem?_eq_some_iff.1 hx
 obtain⟨u,hu⟩:∃ u,(pvs.take i++.slice pa o.paths.length pc :: pvs.drop i)[j]?=some u:=⟨_,List.getElem?_eq_getElem (by omega)⟩
 obtain⟨p1,⟨a,c,rfl⟩,p3⟩:=hp j x u hx hu
 obtain⟨e1,e2⟩:=oCells_at _ _ j _ _ hx hu
 refine⟨a,_,c,p1,.inl g1,?_,?_,p3⟩
 ·rw[Nat.zero_add];exact(own_cellat hrow (by omega) e1).1
 ·rw[Nat.zero_add];exact(own_cellat hrow (by omega) e2).1
theorem place_le9 (os:List Own) (p:List UInt8):placeO os p<=os.length:=by
 unfold placeO
 exact List.countP_le_length
theorem pv_one {w:World} {B:Nat} {os:List Own} {pvs:List Value} {ok:Nat->Prop} (h1:os.length=pvs.length) (h3:∀ (i:Nat) (o:Own) (v:Value),os[i]?=some o->pvs[i]?=some v->(∃ a c,v=.slice a o.paths.length c)/\StrsAre w ok o.paths v):∀ v∈pvs,v.oneCell'=true:=by
 intro v hv
 obtain⟨i,hi,rfl⟩:=List.getElem_of_mem hv
 obtain⟨⟨a,c,e⟩,-⟩:=h3 i _ _ (List.getElem?_eq_getElem (by omega)) (List.getElem?_eq_getElem hi)
 rw[e];rfl
set_option maxRecDepth 100000 in
set_option maxHeartbeats 4000000 in
theorem withOwner_at (w:World) (B:Nat) (os:List Own) (r:Value) (o:Own) (pa:Option Addr) (pc:Nat) (okp:Nat->Prop) (h:OwnRow w B os r) (hn:∀ o∈os,o.name.length<=maxLen) (hr:Rises (os.map Own.name)) (hlen:os.length<=4000000) (hB:B<=w.heap.size)
 (hno:o.name.length<=maxLen) (ho:StrsAre w okp o.paths (.slice pa o.paths.length pc)) (hoff:∀ k,okp k->some k≠r.ownBlock) :
 Calls Tryz.prog 29 #[r,.agg #[.string ⟨o.name.toArray⟩,.slice pa o.paths.length pc]] w fun e w'=>∃ a c,e=.returned (.slice a (withOwnF os o).length c)/\OwnsAre w' (fun k=>B<=k\/okp k) (withOwnF os o) (.slice a (withOwnF os o).length c)/\w.grownBy w' r.ownBlock:=by
 have OW:=hidI (h.owns hn)
 obtain⟨ra,rc,hform⟩:=(h.owns hn).form
 by_cases hp0:o.paths=[]
 ·have E:Hid (withOwnF os o=os):=hidI (by unfold withOwnF;rw[if_pos hp0])
  have z0:o.paths.length=0:=by rw[hp0];rfl
  rw[z0]
  subst hform
  have GB:Hid (∀ o,w.grownBy (w.alloc o) (Value.slice ra os.length rc).ownBlock):=hidI (fun o=>gb_below (bel_alloc w o))
  clear hp0 z0 ho h hn hr
  go_enter Tryz.func29,Tryz.ntmps29
  go_wp2_with fail
  go_ret
  exact⟨ra,rc,by rw[E.out];rfl,by rw[E.out];exact(OW.out.bel (bel_alloc w _)).weak fun k hk=>.inl hk,GB.out _⟩
 ·have E:Hid (withOwnF os o=os.take (placeO os o.name)++o :: os.drop (placeO os o.name)):=hidI (by unfold withOwnF;rw[if_neg hp0])
  have z0:((o.paths.length:Int) == 0)=false:=by
   rw[beq_eq_false_iff_ne]
   have:o.paths.length≠0:=fun e=>hp0 (List.length_eq_zero_iff.1 e)
   omega
  obtain⟨pvs,h1,h2,h3⟩:=h
  have FI:Hid (∀ W,Below w.heap.size w W->Calls Tryz.prog 61 #[r,.string ⟨o.name.toArray⟩] W fun e w'=>e=.returned (.tuple #[.int .i64 (placeO os o.name:Nat),.bool ((os.map Own.name).contains o.name)])/\Below W.heap.size W w'):=hidI (fun W hW=>find_owner W _ os r o.name (OW.out.bel hW) hr (by omega))
  obtain⟨i,hie⟩:∃ i,placeO os o.name=i:=⟨_,rfl⟩
  have hi:i<=os.length:=hie ▸ place_le9 os o.name
  have IN:Hid (∀ W vb,Below w.heap.size w W->w.heap.size<=vb->W.heap[vb]?=some (.cells #[.string ⟨o.name.toArray⟩,.slice pa o.paths.length pc] 41)->Calls Tryz.prog 62 #[r,.int .i64 i,.slice (some ⟨vb,0,none⟩) 1 1] W fun e w'=>∃ g cap,e=.returned (.slice (some ⟨g,0,none⟩) (os.length+1) cap)/\OwnsAre w' (fun k=>B<=k\/okp k) (os.take i++o :: os.drop i) (.slice (some ⟨g,0,none⟩) (os.take i++o :: os.drop i).length cap)/\w.grownBy w' r.ownBlock):=hidI (fun W vb hW hvb hv=>by
   refine(insert_at W B os.length i vb r (oCells os pvs) o.name pa o.paths.length pc (own_same h2 fun g hg=>hW.block g (own_lt h2 hg).2) hv hi hlen (by have:=hW.size;omega) (fun g hg=>by have:=(own_lt h2 hg).2;omega) (oCells_one os pvs (pv_one (B:=B) h1 h3))).mono ?_
   rintro e w' ⟨g,cap,rfl,q1,q2⟩
   have q3:=gb_trans (gb_below hW) q2
   exact⟨g,cap,rfl,ownRow_ins h1 h3 hi hn hno ho hoff q1 q3,q3⟩)
  obtain⟨bb,hbb⟩:∃ bb,(os.map Own.name).contains o.name=bb:=⟨_,rfl⟩
  rw[hbb]at FI
  rw[hie]at E FI
  clear hie hbb hp0 h1 h2 h3 hn hr ho OW
  subst hform
  have B0:Hid (∀ o,Below w.heap.size w (w.alloc o)):=hidI (fun o=>bel_alloc w o)
  have A1:Hid (∀ w1,Below (w.alloc (.cells #[.string ⟨o.name.toArray⟩,.slice pa o.paths.length pc] 41)).heap.size (w.alloc (.cells #[.string ⟨o.name.toArray⟩,.slice pa o.paths.length pc] 41)) w1->w1.cell? ⟨w.heap.size,0,none⟩=some (.string ⟨o.name.toArray⟩)/\w1.cell? ⟨w.heap.size,1,none⟩=some (.slice pa o.paths.length pc)/\w.heap.size<=w1.heap.size/\∀ o,Below w.heap.size w (w1.alloc o)):=hidI (fun w1 hb=>by
   refine⟨cell_bel hb (by rw[World.cell?_alloc_at _ _ _ _ rfl];rfl),cell_bel hb (by rw[World.cell?_alloc_at _ _ _ _ rfl];rfl),?_,fun o=>?_⟩
   ·have:=hb.size;simp at this;omega
   ·have b1:=(bel_alloc w _).trans (hb.mono (by simp))
    exact b1.trans ((bel_alloc w1 o).mono b1.size))
  have NB:Hid (∀ (w1:World) o,(w1.alloc o).heap[w1.heap.size]?=some o):=hidI (fun w1 o=>heap_alloc_new w1 o)
  go_enter Tryz.func29,Tryz.ntmps29
  go_wp2_with (first
   |(go_at_call 61;go_must (refine(FI.out _ (B0.out _)).mono ?_);rintro e w1 ⟨rfl,hb⟩;obtain⟨c0,c1,s1,b1⟩:=A1.out _ hb;have S1:=hidI s1;have B1:=hidI b1;clear hb s1 b1)
   |(go_at_call 62;go_must (refine(IN.out _ _ (B1.out _) S1.out (NB.out _ _)).mono ?_);rintro e w3 ⟨g,cap,rfl,p1,p2⟩;have P1:=hidI p1;have P2:=hidI p2;clear p1 p2))
  go_ret
  refine⟨some ⟨g,0,none⟩,cap,?_,?_,P2.out⟩
  ·rw[E.out]
   have:(os.take i++o :: os.drop i).length=os.length+1:=by simp only[List.length_append,List.length_cons,List.length_take,List.length_drop];omega
   rw[this];rfl
  ·rw[E.out];exact P1.out
end Go.Proofs.YtmdemcjmcnfjmaaGreatDoor
namespace Go.Proofs.YtmdemcjmcnfjmaaGreatDoor
open Go.RowKit
theorem cnts_appendN (a b:List V):cnts (a++b)=cnts a+cnts b:=by simp[cnts]
theorem cnts_split (l:List V) (i:Nat):cnts l=cnts (l.take i)+cnts (l.drop i):=by rw[<-cnts_appendN,List.take_append_drop]
theorem cnt_withN {t y:V} {k:List UInt8}:cnt (withV t k y)+(match memV t k with | some z=>cnt z | none=>0)<=cnt t+cnt y:=by
 rw[cnt_eq,cnt_eq t]
 unfold withV
 split
 ·rename_i hp
  unfold memV
  split
  ·rename_i i hf
   rw[show findV t k=some i by simp[findV,hp,hf],Option.bind_some]
   simp only
   rw[cnts_appendN,cnts_cons]
   cases hz:t.l[i]? with
   | none=>
    have h1:=cnts_split t.l i
    have h2:t.l.drop (i+1)=[]:=List.drop_eq_nil_of_le (by have:=List.getElem?_eq_none_iff.1 hz;omega)
    simp only[h2,cnts_nil]
    omega
   | some z=>
    obtain⟨hi,rfl⟩:=List.getElem?_eq_some_iff.1 hz
    have h1:=cnts_split t.l i
    rw[cnts_drop hi]at h1
    simp only
    omega
  ·rename_i hf
   rw[show findV t k=none by simp[findV,hp,hf]]
   simp only[Option.bind_none]
   rw[cnts_appendN,cnts_cons]
   have h1:=cnts_split t.l (insV k t.keys)
   omega
 ·rename_i hp
  have:memV t k=none:=by simp[memV,findV,hp]
  rw[this]
  have:=cnt_eq y
  simp only
  omega
theorem cnt_withoutN (t:V) (k:List UInt8):cnt (withoutV t k)<=cnt t:=by
 rw[cnt_eq,cnt_eq t]
 unfold withoutV
 split
 ·rename_i i hf
  simp only
  rw[cnts_appendN]
  have h1:=cnts_split t.l i
  have h2:=cnts_split (t.l.drop i) 1
  rw[List.drop_drop]at h2
  omega
 ·omega
theorem cnt_objOf (t:V):cnt (objOf t)<=cnt t:=by
 unfold objOf
 split
 ·exact Nat.le_refl _
 ·have:=cnt_eq t
  have h2:cnt objT=1:=by rw[cnt_eq];simp[objT,cnts]
  omega
theorem cnt_laid:∀ (ns:List (List UInt8)) (v x:V),cnt (laidF ns v x)<=cnt v+ns.length+cnt x
 | [],v,x=>by unfold laidF;split <;> simp <;> omega
 | n :: ns,v,x=>by
  unfold laidF
  have h1:=cnt_withN (t:=objOf v) (k:=n) (y:=laidF ns ((memV v n).getD zeroT) x)
  have h2:=cnt_laid ns ((memV v n).getD zeroT) x
  have h3:=cnt_objOf v
  rw[mem_objOf]at h1
  have hz:cnt zeroT=1:=by rw[cnt_eq];simp[zeroT,cnts]
  cases hm:memV v n with
  | none=>rw[hm]at h1 h2;simp only[Option.getD_none]at h1 h2 ⊢;rw[hz]at h2;simp only[List.length_cons];omega
  | some z=>rw[hm]at h1 h2;simp only[Option.getD_some]at h1 h2 ⊢;simp only[List.length_cons];omega
theorem cnt_mem {v z:V} {n:List UInt8} (h:memV v n=some z):cnt z < cnt v:=by
 have h1:=cnts_mem (mem_in h)
 have h2:=cnt_eq v
 omega
theorem cnt_was (v:V) (n:List UInt8):cnt ((memV v n).getD zeroT)<=cnt v:=by
 cases h:memV v n with
 | none=>
  have hz:cnt zeroT=1:=by rw[cnt_eq];simp[zeroT,cnts]
  have:=cnt_eq v
  rw[Option.getD_none];omega
 | some z=>have:=cnt_mem h;rw[Option.getD_some];omega
theorem cnt_out:∀ (ns:List (List UInt8)) (v:V),(∃ y,thr ns v=some y)->cnt (outF ns v)<=cnt v
 | [],v,_=>Nat.le_refl _
 | [n],v,_=>cnt_withoutN v n
 | n :: m :: ns,v,⟨y,hy⟩=>by
  obtain⟨-,z,hm,hz⟩:=thr_kind hy
  unfold outF
  rw[hm,Option.getD_some]
  have h2:=cnt_out (m :: ns) z ⟨y,hz⟩
  split
  ·exact cnt_withoutN v n
  ·have h1:=cnt_withN (t:=v) (k:=n) (y:=outF (m :: ns) z)
   rw[hm]at h1
   simp only at h1
   omega
theorem len_cnt (t:V):t.l.length < cnt t:=by
 have h1:=cnts_len t.l
 have h2:=cnt_eq t
 omega
theorem set_out2 {w w1:World} {ok:Nat->Prop} {C:Nat} {t:V} {g:Nat} {v0 v1 v2 v3 v4:Value} (h:In w1 (lowN ok w.heap.size C) t (.agg #[v0,v1,v2,v3,v4])) (hb:Below w.heap.size w w1) (hg:w.heap.size<=g) (hC:g < C) :
 Below w.heap.size w (set5 w1 g v0 v1 v2 v3 v4)/\In (set5 w1 g v0 v1 v2 v3 v4) (okN ok w.heap.size) t (.agg #[v0,v1,v2,v3,v4]):=
 ⟨bel_set5 hb hg _ _ _ _ _,(h.box hg hC _ _ _ _ _).weak (lowN_out (by omega))⟩
theorem strs_tail2 {w:World} {ok:Nat->Prop} {s:List UInt8} {ns:List (List UInt8)} {b off n c:Nat} (h:StrsAre w ok (s :: ns) (.slice (some ⟨b,off,none⟩) n c)):StrsAre w ok ns (.slice (some ⟨b,off+1,none⟩) ns.length (c - 1)):=by
 have hl:=h.1
 simp only[List.length_cons]at hl
 refine⟨by omega,.inr ⟨b,off+1,c - 1,rfl,?_⟩⟩
 rcases h.2 with⟨e,_⟩ | ⟨b',off',c',e,h1,h2,hcs⟩
 ·cases e
 ·simp only[Value.slice.injEq,Option.some.injEq,Addr.mk.injEq,List.length_cons,and_true]at e h1
  obtain⟨⟨rfl,rfl⟩,-,rfl⟩:=e
  refine⟨by omega,by omega,fun i x hx=>?_⟩
  obtain⟨g1,g2,g3⟩:=hcs (i+1) x (by simpa using hx)
  exact⟨g1,g2,by rw[show off+1+i=off+(i+1) by omega];exact g3⟩
theorem strs_head2 {w:World} {ok:Nat->Prop} {s:List UInt8} {ns:List (List UInt8)} {v:Value} (h:StrsAre w ok (s :: ns) v):∃ b off c,v=.slice (some ⟨b,off,none⟩) (s :: ns).length c/\(s :: ns).length<=c/\c<=9223372036854775807/\w.cell? ⟨b,off,none⟩=some (.string ⟨s.toArray⟩)/\s.length<=9223372036854775807:=by
 rcases h.2 with⟨e,_⟩ | ⟨b,off,c,e,h1,h2,hcs⟩
 ·cases e
 ·obtain⟨g1,g2,g3⟩:=hcs 0 s rfl
  exact⟨b,off,c,e,h1,h2,g3,g1⟩
end Go.Proofs.YtmdemcjmcnfjmaaGreatDoor
namespace Go.Proofs.YtmdemcjmcnfjmaaGreatDoor
open Go.RowKit
theorem wz_new {a W:World} (_:Below a.heap.size a W):BoxIs (W.alloc (.cells #[.int .i64 0,.int .i64 0,.string ⟨#[]⟩,.slice none 0 0,.slice none 0 0] 25)) W.heap.size (.int .i64 0) (.int .i64 0) (.string ⟨#[]⟩) (.slice none 0 0) (.slice none 0 0):=heap_alloc_new _ _
theorem was_new {a W:World} {ok:Nat->Prop} {was:V} {a3 b3:Option Addr} {c3 d3:Nat} (h:Below a.heap.size a W) (hi:In W ok was (.agg #[.int .i64 was.kind,.int .i64 was.n,.string ⟨was.s.toArray⟩,.slice a3 was.keys.length c3,.slice b3 was.l.length d3])) :
 BoxIs (W.alloc (.cells #[.int .i64 was.kind,.int .i64 was.n,.string ⟨was.s.toArray⟩,.slice a3 was.keys.length c3,.slice b3 was.l.length d3] 25)) W.heap.size (.int .i64 was.kind) (.int .i64 was.n) (.string ⟨was.s.toArray⟩) (.slice a3 was.keys.length c3) (.slice b3 was.l.length d3)/\a.heap.size<=W.heap.size/\Below a.heap.size a (W.alloc (.cells #[.int .i64 was.kind,.int .i64 was.n,.string ⟨was.s.toArray⟩,.slice a3 was.keys.length c3,.slice b3 was.l.length d3] 25))/\In (W.alloc (.cells #[.int .i64 was.kind,.int .i64 was.n,.string ⟨was.s.toArray⟩,.slice a3 was.keys.length c3,.slice b3 was.l.length d3] 25)) ok was (.agg #[.int .i64 was.kind,.int .i64 was.n,.string ⟨was.s.toArray⟩,.slice a3 was.keys.length c3,.slice b3 was.l.length d3]):=
 ⟨heap_alloc_new _ _,h.size,bel_trans h (bel_alloc _ _),hi.bel (bel_alloc _ _)⟩
theorem was_put {a W:World} {ok:Nat->Prop} {was:V} {a3 b3:Option Addr} {c3 d3 g:Nat} {e0 e1 e2 e3 e4:Value} (h:Below a.heap.size a W) (hg:a.heap.size<=g) (hb:BoxIs W g e0 e1 e2 e3 e4) (hi:In W ok was (.agg #[.int .i64 was.kind,.int .i64 was.n,.string ⟨was.s.toArray⟩,.slice a3 was.keys.length c3,.slice b3 was.l.length d3])) (hk:∀ k,ok k->k < g) :
 BoxIs (set5 W g (.int .i64 was.kind) (.int .i64 was.n) (.string ⟨was.s.toArray⟩) (.slice a3 was.keys.length c3) (.slice b3 was.l.length d3)) g (.int .i64 was.kind) (.int .i64 was.n) (.string ⟨was.s.toArray⟩) (.slice a3 was.keys.length c3) (.slice b3 was.l.length d3)/\a.heap.size<=g/\Below a.heap.size a (set5 W g (.int .i64 was.kind) (.int .i64 was.n) (.string ⟨was.s.toArray⟩) (.slice a3 was.keys.length c3) (.slice b3 was.l.length d3))/\In (set5 W g (.int .i64 was.kind) (.int .i64 was.n) (.string ⟨was.s.toArray⟩) (.slice a3 was.keys.length c3) (.slice b3 was.l.length d3)) ok was (.agg #[.int .i64 was.kind,.int .i64 was.n,.string ⟨was.s.toArray⟩,.slice a3 was.keys.length c3,.slice b3 was.l.length d3]):=
 ⟨hb.set _ _ _ _ _,hg,bel_set5 h hg _ _ _ _ _,hi.grown (set5_gb W g _ _ _ _ _) (fun k h9=>by have:=hk k h9;omega)⟩
theorem lown_of {W:World} {ok:Nat->Prop} {B C D:Nat} {y:V} {v:Value} (h:In W (okN (fun k=>ok k/\k < B) C) y v) (hC:D<=C):In W (lowN ok B D) y v:=h.weak fun k hk=>hk.imp id fun h9=>Nat.le_trans hC h9
theorem lown_low {W:World} {ok:Nat->Prop} {B D:Nat} {y:V} {v:Value} (h:In W (fun k=>ok k/\k < B) y v):In W (lowN ok B D) y v:=h.weak fun k hk=>.inl hk
theorem okn_low {W:World} {ok:Nat->Prop} {B C:Nat} {y:V} {v:Value} (h:In W (fun k=>ok k/\k < B) y v):In W (okN (fun k=>ok k/\k < B) C) y v:=h.weak fun k hk=>.inl hk
attribute [local go_sem ↓] Go.wp_at_zero Go.wp_at_succ
set_option maxRecDepth 100000 in
set_option maxHeartbeats 8000000 in
theorem owith_at:∀ (ns:List (List UInt8)) (w:World) (ok okn:Nat->Prop) (t x:V) (v xv nv:Value),In w ok t v->In w ok x xv->StrsAre w okn ns nv->ns≠[]->Obs t->cnt t<=90000 ->
 Calls Tryz.prog 57 #[v,nv,xv] w fun e w'=>∃ r,e=.returned r/\In w' (okN ok w.heap.size) (laidF ns t x) r/\Below w.heap.size w w':=by
 intro ns
 induction ns with
 | nil=>intro w ok okn t x v xv nv _ _ _ h;exact absurd rfl h
 | cons n ns ih=>
 intro w ok okn t x v xv nv h hx hnv _ hob hcn
 have IH:=hidI ih
 obtain⟨nb,no,nc,rfl,hcl,hnl,hnc,hnn⟩:=strs_head2 hnv
 have hn1:=hnv.1
 unfold maxLen at hn1
 have NV:=hidI hnv
 have NL:=hidI hnn
 have NC0:=hidI hnc
 have HT:=hidI h.low
 have HX:=hidI hx.low
 have OBT:=hidI hob
 have CT:=hidI hcn
 obtain⟨a1,b1,c1,d1,rfl⟩:=h.form
 obtain⟨a2,b2,c2,d2,rfl⟩:=hx.form
 clear h hx hnv hnc ih hob hcn hnn
 have RLA:Hid (∀ o,o=objOf t->((((memV o n).getD zeroT).kind=5/\x.kind=5)->laidF [n] t x=o)/\(¬(((memV o n).getD zeroT).kind=5/\x.kind=5)->laidF [n] t x=withV o n x)/\(∀ m ns,laidF (n :: m :: ns) t x=withV o n (laidF (m :: ns) ((memV o n).getD zeroT) x))/\pairedV o=true/\o.l.length<=100000/\Obs ((memV o n).getD zeroT)/\cnt ((memV o n).getD zeroT)<=90000):=hidI (fun o ho=>by
  subst ho
  have hO:=OBT.out.obOf
  rw[mem_objOf]
  refine⟨fun hb=>?_,fun hb=>?_,fun m ns=>rfl,hO.paired,?_,obs_was OBT.out n,Nat.le_trans (cnt_was t n) CT.out⟩
  ·show withV (objOf t) n (laidF [] ((memV t n).getD zeroT) x)=objOf t
   rw[laidF,if_pos hb]
   cases hm:memV t n with
   | none=>rw[hm]at hb;simp[zeroT]at hb
   | some z=>exact with_same hO (by rw[mem_objOf];exact hm)
  ·show withV (objOf t) n (laidF [] ((memV t n).getD zeroT) x)=withV (objOf t) n x
   rw[laidF,if_neg hb]
  ·have h1:=len_cnt (objOf t)
   have h2:=cnt_objOf t
   have:=CT.out
   omega)
 by_cases hk:t.kind=5
 ·have e0:(t.kind != 5)=false:=by simp[hk]
  have e00:(t.kind == 5)=true:=by simp[hk]
  obtain⟨o,ho⟩:∃ o,o=objOf t:=⟨_,rfl⟩
  have hot:o=t:=by rw[ho];simp[objOf,hk]
  obtain⟨R1,R2,R3,R4,R5,R6,R7⟩:=RLA.out o ho
  subst hot
  obtain⟨was,hwas⟩:∃ x,(memV o n).getD zeroT=x:=⟨_,rfl⟩
  obtain⟨th,hth⟩:∃ x,(memV o n).isSome=x:=⟨_,rfl⟩
  rw[hwas]at R1 R2 R3 R6 R7
  have HWAS:=hidI hwas
  have HTH:=hidI hth
  have RL:=hidI R1
  have RN:=hidI R2
  have RMA:=hidI R3
  have PO:=hidI R4
  have LO:=hidI R5
  have OW:=hidI R6
  have CW:=hidI R7
  clear R1 R2 R3 R4 R5 R6 R7 hwas hth
  obtain⟨WV,hWV⟩:∃ W,W=((w.alloc (.cells #[.int .i64 o.kind,.int .i64 o.n,.string ⟨o.s.toArray⟩,.slice a1 o.keys.length c1,.slice b1 o.l.length d1] 25)).alloc (.cells #[.int .i64 x.kind,.int .i64 x.n,.string ⟨x.s.toArray⟩,.slice a2 x.keys.length c2,.slice b2 x.l.length d2] 25)).alloc (.cells #[.int .i64 0,.int .i64 0,.string ⟨#[]⟩,.slice none 0 0,.slice none 0 0] 25):=⟨_,rfl⟩
  have BA:Hid (Below w.heap.size w WV):=hidI (by rw[hWV];exact bel_trans (bel_trans (bel_alloc _ _) (bel_alloc _ _)) (bel_alloc _ _))
  have VB:Hid (BoxIs WV w.heap.size (.int .i64 o.kind) (.int .i64 o.n) (.string ⟨o.s.toArray⟩) (.slice a1 o.keys.length c1) (.slice b1 o.l.length d1)):=hidI (by rw[hWV];exact h3a _ _ _ _)
  have XB:Hid (BoxIs WV (w.heap.size+1) (.int .i64 x.kind) (.int .i64 x.n) (.string ⟨x.s.toArray⟩) (.slice a2 x.keys.length c2) (.slice b2 x.l.length d2)):=hidI (by rw[hWV];exact h3b _ _ _ _)
  have RB0:Hid (BoxIs WV (w.heap.size+2) (.int .i64 0) (.int .i64 0) (.string ⟨#[]⟩) (.slice none 0 0) (.slice none 0 0)):=hidI (by rw[hWV];exact h3c _ _ _ _)
  have SA:Hid (w.heap.size+3<=WV.heap.size):=hidI (by rw[hWV];simp)
  have OI:=hidI (HT.out.bel BA.out)
  have XI:=hidI (HX.out.bel BA.out)
  have NC:=hidI (cell_bel BA.out NC0.out)
  have NT:Hid (StrsAre WV okn ns (.slice (some ⟨nb,no+1,none⟩) ns.length (nc - 1))):=hidI ((strs_tail2 NV.out).bel BA.out)
  have HWV:=hidI hWV
  clear hWV hk ho
  go_enter Tryz.func57,Tryz.ntmps57
  go_upto_region 3 with fail
  rw[<-HWV.out]
  go_cut [7,8] (fun pv bv wc=>∃ (g7:Nat) (a3 b3:Option Addr) (c3 d3:Nat),pv=.pointer (some ⟨g7,0,none⟩)/\bv=.bool th/\(BoxIs wc g7 (.int .i64 was.kind) (.int .i64 was.n) (.string ⟨was.s.toArray⟩) (.slice a3 was.keys.length c3) (.slice b3 was.l.length d3)/\WV.heap.size<=g7/\Below WV.heap.size WV wc/\In wc (fun k=>ok k/\k < w.heap.size) was (.agg #[.int .i64 was.kind,.int .i64 was.n,.string ⟨was.s.toArray⟩,.slice a3 was.keys.length c3,.slice b3 was.l.length d3])))
  case first=>
   refine wp_region_T (fun wS=>Below WV.heap.size WV wS) [9] (by kernel_rfl) (bel_drewN _ 1) (fun hHeld=>?_)
   refine WT.out ?_
   refine tk (i:=0) (d:=14) (v:=?_) [4,5,6,7,9,10] rfl rfl (by decide +kernel) rfl (fun _ _ _ h=>h) hHeld ?_ ?_
   rotate_left
   ·intro wS hSw
    obtain⟨u0,u1,u2,u3,u4,-⟩:=(box_bel hSw VB.out).c
    have nm:=cell_bel hSw NC.out
    go_simp
    all_goals with_reducible rfl
   simp only[aput,List.set]
   refine tk (i:=1) (d:=15) (v:=?_) [2,3,4,5,6,7,9,10] rfl rfl (by decide +kernel) rfl (fun _ _ _ h=>h) hHeld ?_ ?_
   rotate_left
   ·intro wS hSw
    go_simp
    all_goals with_reducible rfl
   simp only[aput,List.set]
   refine tk (i:=2) (d:=16) (v:=?_) [3,4,5,6,7,9,10] rfl rfl (by decide +kernel) rfl (fun _ _ _ h=>h) hHeld ?_ ?_
   rotate_left
   ·intro wS hSw
    go_simp
    all_goals with_reducible rfl
   simp only[aput,List.set]
   refine tk (i:=3) (d:=17) (v:=?_) [4,5,6,7,9,10] rfl rfl (by decide +kernel) rfl (fun _ _ _ h=>h) hHeld ?_ ?_
   rotate_left
   ·intro wS hSw
    obtain⟨u0,u1,u2,u3,u4,-⟩:=(box_bel hSw VB.out).c
    have nm:=cell_bel hSw NC.out
    go_simp
    all_goals with_reducible rfl
   simp only[aput,List.set]
   repeat' (first
    | exact nl
    |(refine cns (i:=4) (o:=_) rfl (fun K hK=>?_) ?_
      go_simp
      refine(member_was _ (fun k=>ok k/\k < w.heap.size) o _ n (by exact OI.out.bel hHeld)).mono ?_
      rintro e w4q ⟨rv,rfl,hb5,hr5⟩
      rw[HWAS.out]at hr5
      rw[HTH.out]
      obtain⟨a3,b3,c3,d3,rfl⟩:=hr5.form
      refine hK.out _ _ (bel_trans hHeld hb5) (fun hHeld2=>?_)
      have WI:=hidI hr5
      try replace NB:=hidI (box_bel hb5 NB.out)
      have CALLED:Hid True:=hidI trivial
      clear hb5 hr5
      clear hK K
      replace hHeld:=hHeld2
      clear hHeld2
      try simp only[Act.put,List.setIfInBounds_toArray,List.set_cons_zero,List.set_cons_succ])
    |(refine cns (i:=8) (o:=_) rfl (fun K hK=>?_) ?_
      go_simp
      refine hK.out _ _ (bel_trans hHeld (bel_alloc _ _)) (fun hHeld2=>?_)
      have NB:=hidI (wz_new hHeld)
      first | (have c9:=CALLED.out;clear c9;have FINA:=hidI (was_new hHeld WI.out)) | skip
      clear hK K
      replace hHeld:=hHeld2
      clear hHeld2
      try simp only[Act.put,List.setIfInBounds_toArray,List.set_cons_zero,List.set_cons_succ])
    |(refine lst (i:=9) (o:=_) (by decide +kernel) rfl (fun K hK=>?_)
      try rw[show (World.drew WV).heap.size=WV.heap.size from rfl]at NB
      obtain⟨n0,n1,n2,n3,n4,m0,m1,m2,m3,m4⟩:=NB.out.c
      first | (have c9:=FINA.out;clear c9) | (have FINB:=hidI (was_put (g:=WV.heap.size) hHeld (Nat.le_refl _) NB.out WI.out (fun k hk=>by have h9:=hk.2;have:=SA.out;omega)))
      go_simp
      refine hK.out _ _ ?_
      clear hK K
      try simp only[Act.put,List.setIfInBounds_toArray,List.set_cons_zero,List.set_cons_succ])
    |(refine lst (i:=10) (o:=_) (by decide +kernel) rfl (fun K hK=>?_)
      go_simp
      refine hK.out _ _ ?_
      clear hK K
      try simp only[Act.put,List.setIfInBounds_toArray,List.set_cons_zero,List.set_cons_succ])
    |(refine tk (i:=5) (d:=13) (v:=?_) [6,7,9,10] rfl rfl (by decide +kernel) rfl (fun _ _ _ h=>h) (by exact hHeld) ?_ ?_
      rotate_left
      ·intro wS hSw
       go_simp
       all_goals with_reducible rfl
      simp only[aput,List.set])
    |(refine tk (i:=6) (d:=19) (v:=?_) [9,10] rfl rfl (by decide +kernel) rfl (fun _ _ _ h=>h) (by exact hHeld) ?_ ?_
      rotate_left
      ·intro wS hSw
       go_simp
       all_goals with_reducible rfl
      simp only[aput,List.set])
    |(refine tkY (i:=7) (d:=20) (v:=?_) rfl rfl (by decide +kernel) rfl (fun _ _ _ h=>h) (by exact hHeld) ?_ ?_
      rotate_left
      ·intro wS
       go_simp
       all_goals with_reducible rfl
      simp only[aput,List.set])
    | refine rdy [4,8] (by decide +kernel) ?_
    | refine rdy [8] (by decide +kernel) ?_
    | refine rdy [4] (by decide +kernel) ?_
    | fail)
   all_goals
    refine dn (by kernel_rfl) ?_
    go_wp2_with fail
    go_meet
    case rel=>first | exact⟨_,_,_,_,_,rfl,rfl,FINA.out⟩ | exact⟨_,_,_,_,_,rfl,rfl,FINB.out⟩
  case rest=>
   obtain⟨g7,a3,b3,c3,d3,rfl,rfl,hcW,hcG,hcB,hcI⟩:=hcut
   have WB:=hidI hcW
   have BWC:=hidI hcB
   have WCI:=hidI hcI
   have SC:Hid (w.heap.size+3<=wc.heap.size):=hidI (Nat.le_trans SA.out hcB.size)
   have BC:=hidI (bel_trans BA.out hcB)
   replace VB:=hidI (box_bel hcB VB.out)
   replace XB:=hidI (box_bel hcB XB.out)
   have RB:=hidI (box_bel hcB RB0.out)
   replace NC:=hidI (cell_bel hcB NC.out)
   clear hcW hcG hcB hcI
   cases ns with
   | nil=>
    obtain⟨w0,w1,w2,w3,w4,-⟩:=WB.out.c
    obtain⟨x0,x1,x2,x3,x4,-⟩:=XB.out.c
    obtain⟨v0,v1,v2,v3,v4,-⟩:=VB.out.c
    by_cases hb:was.kind=5/\x.kind=5
    ·have e1:(was.kind == 5)=true:=by simp[hb.1]
     have e2:(x.kind == 5)=true:=by simp[hb.2]
     have RES:Hid (laidF [n] o x=o):=hidI (RL.out hb)
     obtain⟨n0,n1,n2,n3,n4,m0,m1,m2,m3,m4⟩:=RB.out.c
     have ZB:=hidI (RB.out.set (.int .i64 o.kind) (.int .i64 o.n) (.string ⟨o.s.toArray⟩) (.slice a1 o.keys.length c1) (.slice b1 o.l.length d1))
     have Z:=hidI (set_out2 (w:=w) (ok:=ok) (C:=wc.heap.size) (g:=(w.heap.size+2)) (lown_low (OI.out.bel BWC.out)) BC.out (by omega) (by have:=SC.out;omega))
     clear hb
     go_wp2_with fail
     obtain⟨z0,z1,z2,z3,z4,-⟩:=ZB.out.c
     refine bodyPost_ret (v:=.agg #[.int .i64 o.kind,.int .i64 o.n,.string ⟨o.s.toArray⟩,.slice a1 o.keys.length c1,.slice b1 o.l.length d1]) ?_ rfl ?_
     ·simp only[set5]at z0 z1 z2 z3 z4
      simp[results,Tryz.results57,go_sem,z0,z1,z2,z3,z4]
     ·exact⟨_,rfl,by rw[RES.out];exact Z.out.2,Z.out.1⟩
    ·obtain⟨y,hy⟩:∃ y,withV o n x=y:=⟨_,rfl⟩
     have HY:=hidI hy
     have RES:Hid (laidF [n] o x=y):=hidI (by rw[<-hy];exact RN.out hb)
     clear hy
     have e9:(was.kind == 5&&x.kind == 5)=false:=by rw[Bool.and_eq_false_iff,beq_eq_false_iff_ne,beq_eq_false_iff_ne];by_cases h9:was.kind=5;exact .inr (fun h8=>hb ⟨h9,h8⟩);exact .inl h9
     by_cases hwk:was.kind=5
     ·have e1:(was.kind == 5)=true:=by simp[hwk]
      have e2:(x.kind == 5)=false:=by rw[beq_eq_false_iff_ne];exact fun h8=>hb ⟨hwk,h8⟩
      clear hb hwk e9
      go_upto_region 8 with fail
      clear w0 w1 w2 w3 w4 x0 x1 x2 x3 x4 v0 v1 v2 v3 v4
      refine wp_region_T (fun wS=>Below wc.heap.size wc wS) [6] (by kernel_rfl) (bel_drewN _ 1) (fun hHeld=>?_)
      refine WT.out ?_
      refine tk (i:=0) (d:=43) (v:=?_) [5,6] rfl rfl (by decide +kernel) rfl (fun _ _ _ h=>h) hHeld ?_ ?_
      rotate_left
      ·intro wS hSw
       obtain⟨u0,u1,u2,u3,u4,-⟩:=(box_bel hSw VB.out).c
       obtain⟨e0,e1,e2,e3,e4,-⟩:=(box_bel hSw XB.out).c
       have nm:=cell_bel hSw NC.out
       obtain⟨f0,f1,f2,f3,f4,-⟩:=(box_bel hSw WB.out).c
       go_simp
       all_goals with_reducible rfl
      simp only[aput,List.set]
      refine tk (i:=1) (d:=44) (v:=?_) [2,3,5,6] rfl rfl (by decide +kernel) rfl (fun _ _ _ h=>h) hHeld ?_ ?_
      rotate_left
      ·intro wS hSw
       go_simp
       all_goals with_reducible rfl
      simp only[aput,List.set]
      refine tk (i:=2) (d:=45) (v:=?_) [3,5,6] rfl rfl (by decide +kernel) rfl (fun _ _ _ h=>h) hHeld ?_ ?_
      rotate_left
      ·intro wS hSw
       go_simp
       all_goals with_reducible rfl
      simp only[aput,List.set]
      refine tk (i:=3) (d:=46) (v:=?_) [5,6] rfl rfl (by decide +kernel) rfl (fun _ _ _ h=>h) hHeld ?_ ?_
      rotate_left
      ·intro wS hSw
       obtain⟨u0,u1,u2,u3,u4,-⟩:=(box_bel hSw VB.out).c
       obtain⟨e0,e1,e2,e3,e4,-⟩:=(box_bel hSw XB.out).c
       have nm:=cell_bel hSw NC.out
       obtain⟨f0,f1,f2,f3,f4,-⟩:=(box_bel hSw WB.out).c
       go_simp
       all_goals with_reducible rfl
      simp only[aput,List.set]
      refine tk (i:=4) (d:=47) (v:=?_) [5,6] rfl rfl (by decide +kernel) rfl (fun _ _ _ h=>h) hHeld ?_ ?_
      rotate_left
      ·intro wS hSw
       obtain⟨u0,u1,u2,u3,u4,-⟩:=(box_bel hSw VB.out).c
       obtain⟨e0,e1,e2,e3,e4,-⟩:=(box_bel hSw XB.out).c
       have nm:=cell_bel hSw NC.out
       obtain⟨f0,f1,f2,f3,f4,-⟩:=(box_bel hSw WB.out).c
       go_simp
       all_goals with_reducible rfl
      simp only[aput,List.set]
      repeat' (first
       | exact nl
       |(refine cns (i:=5) (o:=_) rfl (fun K hK=>?_) ?_
         go_simp
         refine(with_is _ (fun k=>ok k/\k < w.heap.size) o x _ _ n (by exact(OI.out.bel BWC.out).bel hHeld) (by exact(XI.out.bel BWC.out).bel hHeld) PO.out LO.out NL.out).mono ?_
         rintro e w5q ⟨rv,rfl,hr5,hb5⟩
         rw[HY.out]at hr5
         obtain⟨a4,b4,c4,d4,rfl⟩:=hr5.form
         refine hK.out _ _ (bel_trans hHeld hb5) (fun hHeld2=>?_)
         have YI:=hidI (lown_of (D:=wc.heap.size) hr5 hHeld.size)
         clear hb5 hr5
         clear hK K
         replace hHeld:=hHeld2
         clear hHeld2
         try simp only[Act.put,List.setIfInBounds_toArray,List.set_cons_zero,List.set_cons_succ])
       |(refine lst (i:=6) (o:=_) (by decide +kernel) rfl (fun K hK=>?_)
         have HB:=hidI (box_bel hHeld RB.out)
         obtain⟨n0,n1,n2,n3,n4,m0,m1,m2,m3,m4⟩:=HB.out.c
         have ZB:=hidI (HB.out.set (.int .i64 y.kind) (.int .i64 y.n) (.string ⟨y.s.toArray⟩) (.slice a4 y.keys.length c4) (.slice b4 y.l.length d4))
         have Z:=hidI (set_out2 (w:=w) (ok:=ok) (C:=wc.heap.size) (g:=(w.heap.size+2)) YI.out (bel_trans BC.out hHeld) (by omega) (by have:=SC.out;omega))
         go_simp
         refine hK.out _ _ ?_
         clear hK K
         try simp only[Act.put,List.setIfInBounds_toArray,List.set_cons_zero,List.set_cons_succ])
       | refine rdy [5] (by decide +kernel) ?_
       | fail)
      all_goals
       refine dn (by kernel_rfl) ?_
       clear n0 n1 n2 n3 n4 m0 m1 m2 m3 m4
       go_wp2_with fail
       obtain⟨z0,z1,z2,z3,z4,-⟩:=ZB.out.c
       refine bodyPost_ret (v:=.agg #[.int .i64 y.kind,.int .i64 y.n,.string ⟨y.s.toArray⟩,.slice a4 y.keys.length c4,.slice b4 y.l.length d4]) ?_ rfl ?_
       ·simp only[set5]at z0 z1 z2 z3 z4
        simp[results,Tryz.results57,go_sem,z0,z1,z2,z3,z4]
       ·exact⟨_,rfl,by rw[RES.out];exact Z.out.2,Z.out.1⟩
     ·have e1:(was.kind == 5)=false:=by rw[beq_eq_false_iff_ne];exact hwk
      clear hb hwk e9
      go_upto_region 8 with fail
      clear w0 w1 w2 w3 w4 x0 x1 x2 x3 x4 v0 v1 v2 v3 v4
      refine wp_region_T (fun wS=>Below wc.heap.size wc wS) [6] (by kernel_rfl) (bel_drewN _ 1) (fun hHeld=>?_)
      refine WT.out ?_
      refine tk (i:=0) (d:=43) (v:=?_) [5,6] rfl rfl (by decide +kernel) rfl (fun _ _ _ h=>h) hHeld ?_ ?_
      rotate_left
      ·intro wS hSw
       obtain⟨u0,u1,u2,u3,u4,-⟩:=(box_bel hSw VB.out).c
       obtain⟨e0,e1,e2,e3,e4,-⟩:=(box_bel hSw XB.out).c
       have nm:=cell_bel hSw NC.out
       obtain⟨f0,f1,f2,f3,f4,-⟩:=(box_bel hSw WB.out).c
       go_simp
       all_goals with_reducible rfl
      simp only[aput,List.set]
      refine tk (i:=1) (d:=44) (v:=?_) [2,3,5,6] rfl rfl (by decide +kernel) rfl (fun _ _ _ h=>h) hHeld ?_ ?_
      rotate_left
      ·intro wS hSw
       go_simp
       all_goals with_reducible rfl
      simp only[aput,List.set]
      refine tk (i:=2) (d:=45) (v:=?_) [3,5,6] rfl rfl (by decide +kernel) rfl (fun _ _ _ h=>h) hHeld ?_ ?_
      rotate_left
      ·intro wS hSw
       go_simp
       all_goals with_reducible rfl
      simp only[aput,List.set]
      refine tk (i:=3) (d:=46) (v:=?_) [5,6] rfl rfl (by decide +kernel) rfl (fun _ _ _ h=>h) hHeld ?_ ?_
      rotate_left
      ·intro wS hSw
       obtain⟨u0,u1,u2,u3,u4,-⟩:=(box_bel hSw VB.out).c
       obtain⟨e0,e1,e2,e3,e4,-⟩:=(box_bel hSw XB.out).c
       have nm:=cell_bel hSw NC.out
       obtain⟨f0,f1,f2,f3,f4,-⟩:=(box_bel hSw WB.out).c
       go_simp
       all_goals with_reducible rfl
      simp only[aput,List.set]
      refine tk (i:=4) (d:=47) (v:=?_) [5,6] rfl rfl (by decide +kernel) rfl (fun _ _ _ h=>h) hHeld ?_ ?_
      rotate_left
      ·intro wS hSw
       obtain⟨u0,u1,u2,u3,u4,-⟩:=(box_bel hSw VB.out).c
       obtain⟨e0,e1,e2,e3,e4,-⟩:=(box_bel hSw XB.out).c
       have nm:=cell_bel hSw NC.out
       obtain⟨f0,f1,f2,f3,f4,-⟩:=(box_bel hSw WB.out).c
       go_simp
       all_goals with_reducible rfl
      simp only[aput,List.set]
      repeat' (first
       | exact nl
       |(refine cns (i:=5) (o:=_) rfl (fun K hK=>?_) ?_
         go_simp
         refine(with_is _ (fun k=>ok k/\k < w.heap.size) o x _ _ n (by exact(OI.out.bel BWC.out).bel hHeld) (by exact(XI.out.bel BWC.out).bel hHeld) PO.out LO.out NL.out).mono ?_
         rintro e w5q ⟨rv,rfl,hr5,hb5⟩
         rw[HY.out]at hr5
         obtain⟨a4,b4,c4,d4,rfl⟩:=hr5.form
         refine hK.out _ _ (bel_trans hHeld hb5) (fun hHeld2=>?_)
         have YI:=hidI (lown_of (D:=wc.heap.size) hr5 hHeld.size)
         clear hb5 hr5
         clear hK K
         replace hHeld:=hHeld2
         clear hHeld2
         try simp only[Act.put,List.setIfInBounds_toArray,List.set_cons_zero,List.set_cons_succ])
       |(refine lst (i:=6) (o:=_) (by decide +kernel) rfl (fun K hK=>?_)
         have HB:=hidI (box_bel hHeld RB.out)
         obtain⟨n0,n1,n2,n3,n4,m0,m1,m2,m3,m4⟩:=HB.out.c
         have ZB:=hidI (HB.out.set (.int .i64 y.kind) (.int .i64 y.n) (.string ⟨y.s.toArray⟩) (.slice a4 y.keys.length c4) (.slice b4 y.l.length d4))
         have Z:=hidI (set_out2 (w:=w) (ok:=ok) (C:=wc.heap.size) (g:=(w.heap.size+2)) YI.out (bel_trans BC.out hHeld) (by omega) (by have:=SC.out;omega))
         go_simp
         refine hK.out _ _ ?_
         clear hK K
         try simp only[Act.put,List.setIfInBounds_toArray,List.set_cons_zero,List.set_cons_succ])
       | refine rdy [5] (by decide +kernel) ?_
       | fail)
      all_goals
       refine dn (by kernel_rfl) ?_
       clear n0 n1 n2 n3 n4 m0 m1 m2 m3 m4
       go_wp2_with fail
       obtain⟨z0,z1,z2,z3,z4,-⟩:=ZB.out.c
       refine bodyPost_ret (v:=.agg #[.int .i64 y.kind,.int .i64 y.n,.string ⟨y.s.toArray⟩,.slice a4 y.keys.length c4,.slice b4 y.l.length d4]) ?_ rfl ?_
       ·simp only[set5]at z0 z1 z2 z3 z4
        simp[results,Tryz.results57,go_sem,z0,z1,z2,z3,z4]
       ·exact⟨_,rfl,by rw[RES.out];exact Z.out.2,Z.out.1⟩
   | cons m ns=>
    obtain⟨u,hu⟩:∃ u,laidF (m :: ns) was x=u:=⟨_,rfl⟩
    have HU:=hidI hu
    obtain⟨y,hy⟩:∃ y,withV o n u=y:=⟨_,rfl⟩
    have HY:=hidI hy
    have RES:Hid (laidF (n :: m :: ns) o x=y):=hidI (by rw[<-hy,<-hu];exact RMA.out m ns)
    clear hu hy
    simp only[List.length_cons]at hcl hn1 hnl ⊢
    obtain⟨mc,rfl⟩:∃ mc,nc=mc+2:=⟨nc - 2,by omega⟩
    have NTL:Hid (StrsAre WV okn (m :: ns) (.slice (some ⟨nb,no+1,none⟩) (ns.length+1) (mc+1))):=hidI (by have:=NT.out;simpa using this)
    have g1:(1:Int) < (ns.length:Int)+1+1:=by omega
    have g2:(ns.length:Int)+1+1<=(mc:Int)+2:=by omega
    have g3:(1:Int)<=(ns.length:Int)+1+1:=by omega
    have g5:(0:Int) < (ns.length:Int)+1+1:=by omega
    have g4:decide (1 < ns.length+1+1)=true:=decide_eq_true (by omega)
    go_upto_region 5 with fail
    refine wp_region_T (fun wS=>Below wc.heap.size wc wS) [10] (by kernel_rfl) (bel_drewN _ 1) (fun hHeld=>?_)
    refine WT.out ?_
    refine tk (i:=0) (d:=24) (v:=?_) [9,10] rfl rfl (by decide +kernel) rfl (fun _ _ _ h=>h) hHeld ?_ ?_
    rotate_left
    ·intro wS hSw
     obtain⟨u0,u1,u2,u3,u4,-⟩:=(box_bel hSw VB.out).c
     obtain⟨e0,e1,e2,e3,e4,-⟩:=(box_bel hSw XB.out).c
     have nm:=cell_bel hSw NC.out
     obtain⟨f0,f1,f2,f3,f4,-⟩:=(box_bel hSw WB.out).c
     go_simp
     all_goals with_reducible rfl
    simp only[aput,List.set]
    refine tk (i:=1) (d:=25) (v:=?_) [2,3,9,10] rfl rfl (by decide +kernel) rfl (fun _ _ _ h=>h) hHeld ?_ ?_
    rotate_left
    ·intro wS hSw
     go_simp
     all_goals with_reducible rfl
    simp only[aput,List.set]
    refine tk (i:=2) (d:=26) (v:=?_) [3,9,10] rfl rfl (by decide +kernel) rfl (fun _ _ _ h=>h) hHeld ?_ ?_
    rotate_left
    ·intro wS hSw
     go_simp
     all_goals with_reducible rfl
    simp only[aput,List.set]
    refine tk (i:=3) (d:=27) (v:=?_) [9,10] rfl rfl (by decide +kernel) rfl (fun _ _ _ h=>h) hHeld ?_ ?_
    rotate_left
    ·intro wS hSw
     obtain⟨u0,u1,u2,u3,u4,-⟩:=(box_bel hSw VB.out).c
     obtain⟨e0,e1,e2,e3,e4,-⟩:=(box_bel hSw XB.out).c
     have nm:=cell_bel hSw NC.out
     obtain⟨f0,f1,f2,f3,f4,-⟩:=(box_bel hSw WB.out).c
     go_simp
     all_goals with_reducible rfl
    simp only[aput,List.set]
    refine tk (i:=4) (d:=28) (v:=?_) [8,9,10] rfl rfl (by decide +kernel) rfl (fun _ _ _ h=>h) hHeld ?_ ?_
    rotate_left
    ·intro wS hSw
     obtain⟨u0,u1,u2,u3,u4,-⟩:=(box_bel hSw VB.out).c
     obtain⟨e0,e1,e2,e3,e4,-⟩:=(box_bel hSw XB.out).c
     have nm:=cell_bel hSw NC.out
     obtain⟨f0,f1,f2,f3,f4,-⟩:=(box_bel hSw WB.out).c
     go_simp
     all_goals with_reducible rfl
    simp only[aput,List.set]
    refine tk (i:=5) (d:=29) (v:=?_) [6,8,9,10] rfl rfl (by decide +kernel) rfl (fun _ _ _ h=>h) hHeld ?_ ?_
    rotate_left
    ·intro wS hSw
     go_simp
     all_goals with_reducible rfl
    simp only[aput,List.set]
    refine tk (i:=6) (d:=30) (v:=?_) [8,9,10] rfl rfl (by decide +kernel) rfl (fun _ _ _ h=>h) hHeld ?_ ?_
    rotate_left
    ·intro wS hSw
     go_simp
     all_goals with_reducible rfl
    simp only[aput,List.set]
    refine tk (i:=7) (d:=31) (v:=?_) [8,9,10] rfl rfl (by decide +kernel) rfl (fun _ _ _ h=>h) hHeld ?_ ?_
    rotate_left
    ·intro wS hSw
     obtain⟨u0,u1,u2,u3,u4,-⟩:=(box_bel hSw VB.out).c
     obtain⟨e0,e1,e2,e3,e4,-⟩:=(box_bel hSw XB.out).c
     have nm:=cell_bel hSw NC.out
     obtain⟨f0,f1,f2,f3,f4,-⟩:=(box_bel hSw WB.out).c
     go_simp
     all_goals with_reducible rfl
    simp only[aput,List.set]
    repeat' (first
     | exact nl
     |(refine cns (i:=8) (o:=_) rfl (fun K hK=>?_) ?_
       go_simp
       refine(IH.out _ (fun k=>ok k/\k < w.heap.size) okn was x _ _ _ (by exact WCI.out.bel hHeld) (by exact(XI.out.bel BWC.out).bel hHeld) (by exact(NTL.out.bel BWC.out).bel hHeld) (by simp) OW.out CW.out).mono ?_
       rintro e w8q ⟨rv,rfl,hr5,hb5⟩
       rw[HU.out]at hr5
       obtain⟨a5,b5,c5,d5,rfl⟩:=hr5.form
       refine hK.out _ _ (bel_trans hHeld hb5) (fun hHeld2=>?_)
       have UI:=hidI hr5
       have HB8:=hidI hHeld
       have HS8:=hidI hHeld.size
       clear hb5 hr5
       clear hK K
       replace hHeld:=hHeld2
       clear hHeld2
       try simp only[Act.put,List.setIfInBounds_toArray,List.set_cons_zero,List.set_cons_succ])
     |(refine cns (i:=9) (o:=_) rfl (fun K hK=>?_) ?_
       go_simp
       refine(with_is _ (okN (fun k=>ok k/\k < w.heap.size) wc.heap.size) o u _ _ n (by exact okn_low ((OI.out.bel BWC.out).bel hHeld)) (by exact UI.out.weak fun k hk=>hk.imp id fun h9=>Nat.le_trans HS8.out h9) PO.out LO.out NL.out).mono ?_
       rintro e w9q ⟨rv,rfl,hr5,hb5⟩
       rw[HY.out]at hr5
       obtain⟨a4,b4,c4,d4,rfl⟩:=hr5.form
       refine hK.out _ _ (bel_trans hHeld hb5) (fun hHeld2=>?_)
       have YI:Hid (In _ (lowN ok w.heap.size wc.heap.size) y _):=hidI (hr5.weak fun k hk=>by rcases hk with hk | hk;exact hk;exact Or.inr (Nat.le_trans hHeld.size hk))
       clear hb5 hr5
       clear hK K
       replace hHeld:=hHeld2
       clear hHeld2
       try simp only[Act.put,List.setIfInBounds_toArray,List.set_cons_zero,List.set_cons_succ])
     |(refine lst (i:=10) (o:=_) (by decide +kernel) rfl (fun K hK=>?_)
       have HB:=hidI (box_bel hHeld RB.out)
       obtain⟨n0,n1,n2,n3,n4,m0,m1,m2,m3,m4⟩:=HB.out.c
       have ZB:=hidI (HB.out.set (.int .i64 y.kind) (.int .i64 y.n) (.string ⟨y.s.toArray⟩) (.slice a4 y.keys.length c4) (.slice b4 y.l.length d4))
       have Z:=hidI (set_out2 (w:=w) (ok:=ok) (C:=wc.heap.size) (g:=(w.heap.size+2)) YI.out (bel_trans BC.out hHeld) (by omega) (by have:=SC.out;omega))
       go_simp
       refine hK.out _ _ ?_
       clear hK K
       try simp only[Act.put,List.setIfInBounds_toArray,List.set_cons_zero,List.set_cons_succ])
     | refine rdy [8] (by decide +kernel) ?_
     | refine rdy [9] (by decide +kernel) ?_
     | fail)
    all_goals
     refine dn (by kernel_rfl) ?_
     clear n0 n1 n2 n3 n4 m0 m1 m2 m3 m4
     go_wp2_with fail
     obtain⟨z0,z1,z2,z3,z4,-⟩:=ZB.out.c
     refine bodyPost_ret (v:=.agg #[.int .i64 y.kind,.int .i64 y.n,.string ⟨y.s.toArray⟩,.slice a4 y.keys.length c4,.slice b4 y.l.length d4]) ?_ rfl ?_
     ·simp only[set5]at z0 z1 z2 z3 z4
      simp[results,Tryz.results57,go_sem,z0,z1,z2,z3,z4]
     ·exact⟨_,rfl,by rw[RES.out];exact Z.out.2,Z.out.1⟩
 ·have e0:(t.kind != 5)=true:=by simp[hk]
  have e00:(t.kind == 5)=false:=by rw[beq_eq_false_iff_ne];exact hk
  obtain⟨o,ho⟩:∃ o,o=objOf t:=⟨_,rfl⟩
  have hot:o=objT:=by rw[ho];simp[objOf,hk]
  obtain⟨R1,R2,R3,R4,R5,R6,R7⟩:=RLA.out o ho
  obtain⟨was,hwas⟩:∃ x,(memV o n).getD zeroT=x:=⟨_,rfl⟩
  obtain⟨th,hth⟩:∃ x,(memV o n).isSome=x:=⟨_,rfl⟩
  rw[hwas]at R1 R2 R3 R6 R7
  have HWAS:=hidI hwas
  have HTH:=hidI hth
  have RL:=hidI R1
  have RN:=hidI R2
  have RMA:=hidI R3
  have PO:=hidI R4
  have LO:=hidI R5
  have OW:=hidI R6
  have CW:=hidI R7
  clear R1 R2 R3 R4 R5 R6 R7 hwas hth
  obtain⟨WV,hWV⟩:∃ W,W=((w.alloc (.cells #[.int .i64 5,.int .i64 0,.string ⟨#[]⟩,.slice none 0 0,.slice none 0 0] 25)).alloc (.cells #[.int .i64 x.kind,.int .i64 x.n,.string ⟨x.s.toArray⟩,.slice a2 x.keys.length c2,.slice b2 x.l.length d2] 25)).alloc (.cells #[.int .i64 0,.int .i64 0,.string ⟨#[]⟩,.slice none 0 0,.slice none 0 0] 25):=⟨_,rfl⟩
  have BA:Hid (Below w.heap.size w WV):=hidI (by rw[hWV];exact bel_trans (bel_trans (bel_alloc _ _) (bel_alloc _ _)) (bel_alloc _ _))
  obtain⟨a1,ha1⟩:∃ a:Option Addr,a=none:=⟨_,rfl⟩
  obtain⟨b1,hb1⟩:∃ a:Option Addr,a=none:=⟨_,rfl⟩
  obtain⟨c1,hc1⟩:∃ a:Nat,a=0:=⟨_,rfl⟩
  obtain⟨d1,hd1⟩:∃ a:Nat,a=0:=⟨_,rfl⟩
  have VB:Hid (BoxIs WV w.heap.size (.int .i64 o.kind) (.int .i64 o.n) (.string ⟨o.s.toArray⟩) (.slice a1 o.keys.length c1) (.slice b1 o.l.length d1)):=hidI (by rw[hWV,hot,ha1,hb1,hc1,hd1];exact h3a _ _ _ _)
  have XB:Hid (BoxIs WV (w.heap.size+1) (.int .i64 x.kind) (.int .i64 x.n) (.string ⟨x.s.toArray⟩) (.slice a2 x.keys.length c2) (.slice b2 x.l.length d2)):=hidI (by rw[hWV];exact h3b _ _ _ _)
  have RB0:Hid (BoxIs WV (w.heap.size+2) (.int .i64 0) (.int .i64 0) (.string ⟨#[]⟩) (.slice none 0 0) (.slice none 0 0)):=hidI (by rw[hWV];exact h3c _ _ _ _)
  have SA:Hid (w.heap.size+3<=WV.heap.size):=hidI (by rw[hWV];simp)
  have OI:Hid (In WV (fun k=>ok k/\k < w.heap.size) o (.agg #[.int .i64 o.kind,.int .i64 o.n,.string ⟨o.s.toArray⟩,.slice a1 o.keys.length c1,.slice b1 o.l.length d1])):=hidI (by rw[hot,ha1,hb1,hc1,hd1];exact in_leaf WV _ 5 0 (by unfold I64;simp) (by unfold I64;simp))
  have XI:=hidI (HX.out.bel BA.out)
  have NC:=hidI (cell_bel BA.out NC0.out)
  have NT:Hid (StrsAre WV okn ns (.slice (some ⟨nb,no+1,none⟩) ns.length (nc - 1))):=hidI ((strs_tail2 NV.out).bel BA.out)
  have HWV:=hidI hWV
  clear hWV hk ho hot ha1 hb1 hc1 hd1
  go_enter Tryz.func57,Tryz.ntmps57
  go_upto_region 3 with fail
  rw[<-HWV.out]
  go_cut [7,8] (fun pv bv wc=>∃ (g7:Nat) (a3 b3:Option Addr) (c3 d3:Nat),pv=.pointer (some ⟨g7,0,none⟩)/\bv=.bool th/\(BoxIs wc g7 (.int .i64 was.kind) (.int .i64 was.n) (.string ⟨was.s.toArray⟩) (.slice a3 was.keys.length c3) (.slice b3 was.l.length d3)/\WV.heap.size<=g7/\Below WV.heap.size WV wc/\In wc (fun k=>ok k/\k < w.heap.size) was (.agg #[.int .i64 was.kind,.int .i64 was.n,.string ⟨was.s.toArray⟩,.slice a3 was.keys.length c3,.slice b3 was.l.length d3])))
  case first=>
   refine wp_region_T (fun wS=>Below WV.heap.size WV wS) [9] (by kernel_rfl) (bel_drewN _ 1) (fun hHeld=>?_)
   refine WT.out ?_
   refine tk (i:=0) (d:=14) (v:=?_) [4,5,6,7,9,10] rfl rfl (by decide +kernel) rfl (fun _ _ _ h=>h) hHeld ?_ ?_
   rotate_left
   ·intro wS hSw
    obtain⟨u0,u1,u2,u3,u4,-⟩:=(box_bel hSw VB.out).c
    have nm:=cell_bel hSw NC.out
    go_simp
    all_goals with_reducible rfl
   simp only[aput,List.set]
   refine tk (i:=1) (d:=15) (v:=?_) [2,3,4,5,6,7,9,10] rfl rfl (by decide +kernel) rfl (fun _ _ _ h=>h) hHeld ?_ ?_
   rotate_left
   ·intro wS hSw
    go_simp
    all_goals with_reducible rfl
   simp only[aput,List.set]
   refine tk (i:=2) (d:=16) (v:=?_) [3,4,5,6,7,9,10] rfl rfl (by decide +kernel) rfl (fun _ _ _ h=>h) hHeld ?_ ?_
   rotate_left
   ·intro wS hSw
    go_simp
    all_goals with_reducible rfl
   simp only[aput,List.set]
   refine tk (i:=3) (d:=17) (v:=?_) [4,5,6,7,9,10] rfl rfl (by decide +kernel) rfl (fun _ _ _ h=>h) hHeld ?_ ?_
   rotate_left
   ·intro wS hSw
    obtain⟨u0,u1,u2,u3,u4,-⟩:=(box_bel hSw VB.out).c
    have nm:=cell_bel hSw NC.out
    go_simp
    all_goals with_reducible rfl
   simp only[aput,List.set]
   repeat' (first
    | exact nl
    |(refine cns (i:=4) (o:=_) rfl (fun K hK=>?_) ?_
      go_simp
      refine(member_was _ (fun k=>ok k/\k < w.heap.size) o _ n (by exact OI.out.bel hHeld)).mono ?_
      rintro e w4q ⟨rv,rfl,hb5,hr5⟩
      rw[HWAS.out]at hr5
      rw[HTH.out]
      obtain⟨a3,b3,c3,d3,rfl⟩:=hr5.form
      refine hK.out _ _ (bel_trans hHeld hb5) (fun hHeld2=>?_)
      have WI:=hidI hr5
      try replace NB:=hidI (box_bel hb5 NB.out)
      have CALLED:Hid True:=hidI trivial
      clear hb5 hr5
      clear hK K
      replace hHeld:=hHeld2
      clear hHeld2
      try simp only[Act.put,List.setIfInBounds_toArray,List.set_cons_zero,List.set_cons_succ])
    |(refine cns (i:=8) (o:=_) rfl (fun K hK=>?_) ?_
      go_simp
      refine hK.out _ _ (bel_trans hHeld (bel_alloc _ _)) (fun hHeld2=>?_)
      have NB:=hidI (wz_new hHeld)
      first | (have c9:=CALLED.out;clear c9;have FINA:=hidI (was_new hHeld WI.out)) | skip
      clear hK K
      replace hHeld:=hHeld2
      clear hHeld2
      try simp only[Act.put,List.setIfInBounds_toArray,List.set_cons_zero,List.set_cons_succ])
    |(refine lst (i:=9) (o:=_) (by decide +kernel) rfl (fun K hK=>?_)
      try rw[show (World.drew WV).heap.size=WV.heap.size from rfl]at NB
      obtain⟨n0,n1,n2,n3,n4,m0,m1,m2,m3,m4⟩:=NB.out.c
      first | (have c9:=FINA.out;clear c9) | (have FINB:=hidI (was_put (g:=WV.heap.size) hHeld (Nat.le_refl _) NB.out WI.out (fun k hk=>by have h9:=hk.2;have:=SA.out;omega)))
      go_simp
      refine hK.out _ _ ?_
      clear hK K
      try simp only[Act.put,List.setIfInBounds_toArray,List.set_cons_zero,List.set_cons_succ])
    |(refine lst (i:=10) (o:=_) (by decide +kernel) rfl (fun K hK=>?_)
      go_simp
      refine hK.out _ _ ?_
      clear hK K
      try simp only[Act.put,List.setIfInBounds_toArray,List.set_cons_zero,List.set_cons_succ])
    |(refine tk (i:=5) (d:=13) (v:=?_) [6,7,9,10] rfl rfl (by decide +kernel) rfl (fun _ _ _ h=>h) (by exact hHeld) ?_ ?_
      rotate_left
      ·intro wS hSw
       go_simp
       all_goals with_reducible rfl
      simp only[aput,List.set])
    |(refine tk (i:=6) (d:=19) (v:=?_) [9,10] rfl rfl (by decide +kernel) rfl (fun _ _ _ h=>h) (by exact hHeld) ?_ ?_
      rotate_left
      ·intro wS hSw
       go_simp
       all_goals with_reducible rfl
      simp only[aput,List.set])
    |(refine tkY (i:=7) (d:=20) (v:=?_) rfl rfl (by decide +kernel) rfl (fun _ _ _ h=>h) (by exact hHeld) ?_ ?_
      rotate_left
      ·intro wS
       go_simp
       all_goals with_reducible rfl
      simp only[aput,List.set])
    | refine rdy [4,8] (by decide +kernel) ?_
    | refine rdy [8] (by decide +kernel) ?_
    | refine rdy [4] (by decide +kernel) ?_
    | fail)
   all_goals
    refine dn (by kernel_rfl) ?_
    go_wp2_with fail
    go_meet
    case rel=>first | exact⟨_,_,_,_,_,rfl,rfl,FINA.out⟩ | exact⟨_,_,_,_,_,rfl,rfl,FINB.out⟩
  case rest=>
   obtain⟨g7,a3,b3,c3,d3,rfl,rfl,hcW,hcG,hcB,hcI⟩:=hcut
   have WB:=hidI hcW
   have BWC:=hidI hcB
   have WCI:=hidI hcI
   have SC:Hid (w.heap.size+3<=wc.heap.size):=hidI (Nat.le_trans SA.out hcB.size)
   have BC:=hidI (bel_trans BA.out hcB)
   replace VB:=hidI (box_bel hcB VB.out)
   replace XB:=hidI (box_bel hcB XB.out)
   have RB:=hidI (box_bel hcB RB0.out)
   replace NC:=hidI (cell_bel hcB NC.out)
   clear hcW hcG hcB hcI
   cases ns with
   | nil=>
    obtain⟨w0,w1,w2,w3,w4,-⟩:=WB.out.c
    obtain⟨x0,x1,x2,x3,x4,-⟩:=XB.out.c
    obtain⟨v0,v1,v2,v3,v4,-⟩:=VB.out.c
    by_cases hb:was.kind=5/\x.kind=5
    ·have e1:(was.kind == 5)=true:=by simp[hb.1]
     have e2:(x.kind == 5)=true:=by simp[hb.2]
     have RES:Hid (laidF [n] t x=o):=hidI (RL.out hb)
     obtain⟨n0,n1,n2,n3,n4,m0,m1,m2,m3,m4⟩:=RB.out.c
     have ZB:=hidI (RB.out.set (.int .i64 o.kind) (.int .i64 o.n) (.string ⟨o.s.toArray⟩) (.slice a1 o.keys.length c1) (.slice b1 o.l.length d1))
     have Z:=hidI (set_out2 (w:=w) (ok:=ok) (C:=wc.heap.size) (g:=(w.heap.size+2)) (lown_low (OI.out.bel BWC.out)) BC.out (by omega) (by have:=SC.out;omega))
     clear hb
     go_wp2_with fail
     obtain⟨z0,z1,z2,z3,z4,-⟩:=ZB.out.c
     refine bodyPost_ret (v:=.agg #[.int .i64 o.kind,.int .i64 o.n,.string ⟨o.s.toArray⟩,.slice a1 o.keys.length c1,.slice b1 o.l.length d1]) ?_ rfl ?_
     ·simp only[set5]at z0 z1 z2 z3 z4
      simp[results,Tryz.results57,go_sem,z0,z1,z2,z3,z4]
     ·exact⟨_,rfl,by rw[RES.out];exact Z.out.2,Z.out.1⟩
    ·obtain⟨y,hy⟩:∃ y,withV o n x=y:=⟨_,rfl⟩
     have HY:=hidI hy
     have RES:Hid (laidF [n] t x=y):=hidI (by rw[<-hy];exact RN.out hb)
     clear hy
     have e9:(was.kind == 5&&x.kind == 5)=false:=by rw[Bool.and_eq_false_iff,beq_eq_false_iff_ne,beq_eq_false_iff_ne];by_cases h9:was.kind=5;exact .inr (fun h8=>hb ⟨h9,h8⟩);exact .inl h9
     by_cases hwk:was.kind=5
     ·have e1:(was.kind == 5)=true:=by simp[hwk]
      have e2:(x.kind == 5)=false:=by rw[beq_eq_false_iff_ne];exact fun h8=>hb ⟨hwk,h8⟩
      clear hb hwk e9
      go_upto_region 8 with fail
      clear w0 w1 w2 w3 w4 x0 x1 x2 x3 x4 v0 v1 v2 v3 v4
      refine wp_region_T (fun wS=>Below wc.heap.size wc wS) [6] (by kernel_rfl) (bel_drewN _ 1) (fun hHeld=>?_)
      refine WT.out ?_
      refine tk (i:=0) (d:=43) (v:=?_) [5,6] rfl rfl (by decide +kernel) rfl (fun _ _ _ h=>h) hHeld ?_ ?_
      rotate_left
      ·intro wS hSw
       obtain⟨u0,u1,u2,u3,u4,-⟩:=(box_bel hSw VB.out).c
       obtain⟨e0,e1,e2,e3,e4,-⟩:=(box_bel hSw XB.out).c
       have nm:=cell_bel hSw NC.out
       obtain⟨f0,f1,f2,f3,f4,-⟩:=(box_bel hSw WB.out).c
       go_simp
       all_goals with_reducible rfl
      simp only[aput,List.set]
      refine tk (i:=1) (d:=44) (v:=?_) [2,3,5,6] rfl rfl (by decide +kernel) rfl (fun _ _ _ h=>h) hHeld ?_ ?_
      rotate_left
      ·intro wS hSw
       go_simp
       all_goals with_reducible rfl
      simp only[aput,List.set]
      refine tk (i:=2) (d:=45) (v:=?_) [3,5,6] rfl rfl (by decide +kernel) rfl (fun _ _ _ h=>h) hHeld ?_ ?_
      rotate_left
      ·intro wS hSw
       go_simp
       all_goals with_reducible rfl
      simp only[aput,List.set]
      refine tk (i:=3) (d:=46) (v:=?_) [5,6] rfl rfl (by decide +kernel) rfl (fun _ _ _ h=>h) hHeld ?_ ?_
      rotate_left
      ·intro wS hSw
       obtain⟨u0,u1,u2,u3,u4,-⟩:=(box_bel hSw VB.out).c
       obtain⟨e0,e1,e2,e3,e4,-⟩:=(box_bel hSw XB.out).c
       have nm:=cell_bel hSw NC.out
       obtain⟨f0,f1,f2,f3,f4,-⟩:=(box_bel hSw WB.out).c
       go_simp
       all_goals with_reducible rfl
      simp only[aput,List.set]
      refine tk (i:=4) (d:=47) (v:=?_) [5,6] rfl rfl (by decide +kernel) rfl (fun _ _ _ h=>h) hHeld ?_ ?_
      rotate_left
      ·intro wS hSw
       obtain⟨u0,u1,u2,u3,u4,-⟩:=(box_bel hSw VB.out).c
       obtain⟨e0,e1,e2,e3,e4,-⟩:=(box_bel hSw XB.out).c
       have nm:=cell_bel hSw NC.out
       obtain⟨f0,f1,f2,f3,f4,-⟩:=(box_bel hSw WB.out).c
       go_simp
       all_goals with_reducible rfl
      simp only[aput,List.set]
      repeat' (first
       | exact nl
       |(refine cns (i:=5) (o:=_) rfl (fun K hK=>?_) ?_
         go_simp
         refine(with_is _ (fun k=>ok k/\k < w.heap.size) o x _ _ n (by exact(OI.out.bel BWC.out).bel hHeld) (by exact(XI.out.bel BWC.out).bel hHeld) PO.out LO.out NL.out).mono ?_
         rintro e w5q ⟨rv,rfl,hr5,hb5⟩
         rw[HY.out]at hr5
         obtain⟨a4,b4,c4,d4,rfl⟩:=hr5.form
         refine hK.out _ _ (bel_trans hHeld hb5) (fun hHeld2=>?_)
         have YI:=hidI (lown_of (D:=wc.heap.size) hr5 hHeld.size)
         clear hb5 hr5
         clear hK K
         replace hHeld:=hHeld2
         clear hHeld2
         try simp only[Act.put,List.setIfInBounds_toArray,List.set_cons_zero,List.set_cons_succ])
       |(refine lst (i:=6) (o:=_) (by decide +kernel) rfl (fun K hK=>?_)
         have HB:=hidI (box_bel hHeld RB.out)
         obtain⟨n0,n1,n2,n3,n4,m0,m1,m2,m3,m4⟩:=HB.out.c
         have ZB:=hidI (HB.out.set (.int .i64 y.kind) (.int .i64 y.n) (.string ⟨y.s.toArray⟩) (.slice a4 y.keys.length c4) (.slice b4 y.l.length d4))
         have Z:=hidI (set_out2 (w:=w) (ok:=ok) (C:=wc.heap.size) (g:=(w.heap.size+2)) YI.out (bel_trans BC.out hHeld) (by omega) (by have:=SC.out;omega))
         go_simp
         refine hK.out _ _ ?_
         clear hK K
         try simp only[Act.put,List.setIfInBounds_toArray,List.set_cons_zero,List.set_cons_succ])
       | refine rdy [5] (by decide +kernel) ?_
       | fail)
      all_goals
       refine dn (by kernel_rfl) ?_
       clear n0 n1 n2 n3 n4 m0 m1 m2 m3 m4
       go_wp2_with fail
       obtain⟨z0,z1,z2,z3,z4,-⟩:=ZB.out.c
       refine bodyPost_ret (v:=.agg #[.int .i64 y.kind,.int .i64 y.n,.string ⟨y.s.toArray⟩,.slice a4 y.keys.length c4,.slice b4 y.l.length d4]) ?_ rfl ?_
       ·simp only[set5]at z0 z1 z2 z3 z4
        simp[results,Tryz.results57,go_sem,z0,z1,z2,z3,z4]
       ·exact⟨_,rfl,by rw[RES.out];exact Z.out.2,Z.out.1⟩
     ·have e1:(was.kind == 5)=false:=by rw[beq_eq_false_iff_ne];exact hwk
      clear hb hwk e9
      go_upto_region 8 with fail
      clear w0 w1 w2 w3 w4 x0 x1 x2 x3 x4 v0 v1 v2 v3 v4
      refine wp_region_T (fun wS=>Below wc.heap.size wc wS) [6] (by kernel_rfl) (bel_drewN _ 1) (fun hHeld=>?_)
      refine WT.out ?_
      refine tk (i:=0) (d:=43) (v:=?_) [5,6] rfl rfl (by decide +kernel) rfl (fun _ _ _ h=>h) hHeld ?_ ?_
      rotate_left
      ·intro wS hSw
       obtain⟨u0,u1,u2,u3,u4,-⟩:=(box_bel hSw VB.out).c
       obtain⟨e0,e1,e2,e3,e4,-⟩:=(box_bel hSw XB.out).c
       have nm:=cell_bel hSw NC.out
       obtain⟨f0,f1,f2,f3,f4,-⟩:=(box_bel hSw WB.out).c
       go_simp
       all_goals with_reducible rfl
      simp only[aput,List.set]
      refine tk (i:=1) (d:=44) (v:=?_) [2,3,5,6] rfl rfl (by decide +kernel) rfl (fun _ _ _ h=>h) hHeld ?_ ?_
      rotate_left
      ·intro wS hSw
       go_simp
       all_goals with_reducible rfl
      simp only[aput,List.set]
      refine tk (i:=2) (d:=45) (v:=?_) [3,5,6] rfl rfl (by decide +kernel) rfl (fun _ _ _ h=>h) hHeld ?_ ?_
      rotate_left
      ·intro wS hSw
       go_simp
       all_goals with_reducible rfl
      simp only[aput,List.set]
      refine tk (i:=3) (d:=46) (v:=?_) [5,6] rfl rfl (by decide +kernel) rfl (fun _ _ _ h=>h) hHeld ?_ ?_
      rotate_left
      ·intro wS hSw
       obtain⟨u0,u1,u2,u3,u4,-⟩:=(box_bel hSw VB.out).c
       obtain⟨e0,e1,e2,e3,e4,-⟩:=(box_bel hSw XB.out).c
       have nm:=cell_bel hSw NC.out
       obtain⟨f0,f1,f2,f3,f4,-⟩:=(box_bel hSw WB.out).c
       go_simp
       all_goals with_reducible rfl
      simp only[aput,List.set]
      refine tk (i:=4) (d:=47) (v:=?_) [5,6] rfl rfl (by decide +kernel) rfl (fun _ _ _ h=>h) hHeld ?_ ?_
      rotate_left
      ·intro wS hSw
       obtain⟨u0,u1,u2,u3,u4,-⟩:=(box_bel hSw VB.out).c
       obtain⟨e0,e1,e2,e3,e4,-⟩:=(box_bel hSw XB.out).c
       have nm:=cell_bel hSw NC.out
       obtain⟨f0,f1,f2,f3,f4,-⟩:=(box_bel hSw WB.out).c
       go_simp
       all_goals with_reducible rfl
      simp only[aput,List.set]
      repeat' (first
       | exact nl
       |(refine cns (i:=5) (o:=_) rfl (fun K hK=>?_) ?_
         go_simp
         refine(with_is _ (fun k=>ok k/\k < w.heap.size) o x _ _ n (by exact(OI.out.bel BWC.out).bel hHeld) (by exact(XI.out.bel BWC.out).bel hHeld) PO.out LO.out NL.out).mono ?_
         rintro e w5q ⟨rv,rfl,hr5,hb5⟩
         rw[HY.out]at hr5
         obtain⟨a4,b4,c4,d4,rfl⟩:=hr5.form
         refine hK.out _ _ (bel_trans hHeld hb5) (fun hHeld2=>?_)
         have YI:=hidI (lown_of (D:=wc.heap.size) hr5 hHeld.size)
         clear hb5 hr5
         clear hK K
         replace hHeld:=hHeld2
         clear hHeld2
         try simp only[Act.put,List.setIfInBounds_toArray,List.set_cons_zero,List.set_cons_succ])
       |(refine lst (i:=6) (o:=_) (by decide +kernel) rfl (fun K hK=>?_)
         have HB:=hidI (box_bel hHeld RB.out)
         obtain⟨n0,n1,n2,n3,n4,m0,m1,m2,m3,m4⟩:=HB.out.c
         have ZB:=hidI (HB.out.set (.int .i64 y.kind) (.int .i64 y.n) (.string ⟨y.s.toArray⟩) (.slice a4 y.keys.length c4) (.slice b4 y.l.length d4))
         have Z:=hidI (set_out2 (w:=w) (ok:=ok) (C:=wc.heap.size) (g:=(w.heap.size+2)) YI.out (bel_trans BC.out hHeld) (by omega) (by have:=SC.out;omega))
         go_simp
         refine hK.out _ _ ?_
         clear hK K
         try simp only[Act.put,List.setIfInBounds_toArray,List.set_cons_zero,List.set_cons_succ])
       | refine rdy [5] (by decide +kernel) ?_
       | fail)
      all_goals
       refine dn (by kernel_rfl) ?_
       clear n0 n1 n2 n3 n4 m0 m1 m2 m3 m4
       go_wp2_with fail
       obtain⟨z0,z1,z2,z3,z4,-⟩:=ZB.out.c
       refine bodyPost_ret (v:=.agg #[.int .i64 y.kind,.int .i64 y.n,.string ⟨y.s.toArray⟩,.slice a4 y.keys.length c4,.slice b4 y.l.length d4]) ?_ rfl ?_
       ·simp only[set5]at z0 z1 z2 z3 z4
        simp[results,Tryz.results57,go_sem,z0,z1,z2,z3,z4]
       ·exact⟨_,rfl,by rw[RES.out];exact Z.out.2,Z.out.1⟩
   | cons m ns=>
    obtain⟨u,hu⟩:∃ u,laidF (m :: ns) was x=u:=⟨_,rfl⟩
    have HU:=hidI hu
    obtain⟨y,hy⟩:∃ y,withV o n u=y:=⟨_,rfl⟩
    have HY:=hidI hy
    have RES:Hid (laidF (n :: m :: ns) t x=y):=hidI (by rw[<-hy,<-hu];exact RMA.out m ns)
    clear hu hy
    simp only[List.length_cons]at hcl hn1 hnl ⊢
    obtain⟨mc,rfl⟩:∃ mc,nc=mc+2:=⟨nc - 2,by omega⟩
    have NTL:Hid (StrsAre WV okn (m :: ns) (.slice (some ⟨nb,no+1,none⟩) (ns.length+1) (mc+1))):=hidI (by have:=NT.out;simpa using this)
    have g1:(1:Int) < (ns.length:Int)+1+1:=by omega
    have g2:(ns.length:Int)+1+1<=(mc:Int)+2:=by omega
    have g3:(1:Int)<=(ns.length:Int)+1+1:=by omega
    have g5:(0:Int) < (ns.length:Int)+1+1:=by omega
    have g4:decide (1 < ns.length+1+1)=true:=decide_eq_true (by omega)
    go_upto_region 5 with fail
    refine wp_region_T (fun wS=>Below wc.heap.size wc wS) [10] (by kernel_rfl) (bel_drewN _ 1) (fun hHeld=>?_)
    refine WT.out ?_
    refine tk (i:=0) (d:=24) (v:=?_) [9,10] rfl rfl (by decide +kernel) rfl (fun _ _ _ h=>h) hHeld ?_ ?_
    rotate_left
    ·intro wS hSw
     obtain⟨u0,u1,u2,u3,u4,-⟩:=(box_bel hSw VB.out).c
     obtain⟨e0,e1,e2,e3,e4,-⟩:=(box_bel hSw XB.out).c
     have nm:=cell_bel hSw NC.out
     obtain⟨f0,f1,f2,f3,f4,-⟩:=(box_bel hSw WB.out).c
     go_simp
     all_goals with_reducible rfl
    simp only[aput,List.set]
    refine tk (i:=1) (d:=25) (v:=?_) [2,3,9,10] rfl rfl (by decide +kernel) rfl (fun _ _ _ h=>h) hHeld ?_ ?_
    rotate_left
    ·intro wS hSw
     go_simp
     all_goals with_reducible rfl
    simp only[aput,List.set]
    refine tk (i:=2) (d:=26) (v:=?_) [3,9,10] rfl rfl (by decide +kernel) rfl (fun _ _ _ h=>h) hHeld ?_ ?_
    rotate_left
    ·intro wS hSw
     go_simp
     all_goals with_reducible rfl
    simp only[aput,List.set]
    refine tk (i:=3) (d:=27) (v:=?_) [9,10] rfl rfl (by decide +kernel) rfl (fun _ _ _ h=>h) hHeld ?_ ?_
    rotate_left
    ·intro wS hSw
     obtain⟨u0,u1,u2,u3,u4,-⟩:=(box_bel hSw VB.out).c
     obtain⟨e0,e1,e2,e3,e4,-⟩:=(box_bel hSw XB.out).c
     have nm:=cell_bel hSw NC.out
     obtain⟨f0,f1,f2,f3,f4,-⟩:=(box_bel hSw WB.out).c
     go_simp
     all_goals with_reducible rfl
    simp only[aput,List.set]
    refine tk (i:=4) (d:=28) (v:=?_) [8,9,10] rfl rfl (by decide +kernel) rfl (fun _ _ _ h=>h) hHeld ?_ ?_
    rotate_left
    ·intro wS hSw
     obtain⟨u0,u1,u2,u3,u4,-⟩:=(box_bel hSw VB.out).c
     obtain⟨e0,e1,e2,e3,e4,-⟩:=(box_bel hSw XB.out).c
     have nm:=cell_bel hSw NC.out
     obtain⟨f0,f1,f2,f3,f4,-⟩:=(box_bel hSw WB.out).c
     go_simp
     all_goals with_reducible rfl
    simp only[aput,List.set]
    refine tk (i:=5) (d:=29) (v:=?_) [6,8,9,10] rfl rfl (by decide +kernel) rfl (fun _ _ _ h=>h) hHeld ?_ ?_
    rotate_left
    ·intro wS hSw
     go_simp
     all_goals with_reducible rfl
    simp only[aput,List.set]
    refine tk (i:=6) (d:=30) (v:=?_) [8,9,10] rfl rfl (by decide +kernel) rfl (fun _ _ _ h=>h) hHeld ?_ ?_
    rotate_left
    ·intro wS hSw
     go_simp
     all_goals with_reducible rfl
    simp only[aput,List.set]
    refine tk (i:=7) (d:=31) (v:=?_) [8,9,10] rfl rfl (by decide +kernel) rfl (fun _ _ _ h=>h) hHeld ?_ ?_
    rotate_left
    ·intro wS hSw
     obtain⟨u0,u1,u2,u3,u4,-⟩:=(box_bel hSw VB.out).c
     obtain⟨e0,e1,e2,e3,e4,-⟩:=(box_bel hSw XB.out).c
     have nm:=cell_bel hSw NC.out
     obtain⟨f0,f1,f2,f3,f4,-⟩:=(box_bel hSw WB.out).c
     go_simp
     all_goals with_reducible rfl
    simp only[aput,List.set]
    repeat' (first
     | exact nl
     |(refine cns (i:=8) (o:=_) rfl (fun K hK=>?_) ?_
       go_simp
       refine(IH.out _ (fun k=>ok k/\k < w.heap.size) okn was x _ _ _ (by exact WCI.out.bel hHeld) (by exact(XI.out.bel BWC.out).bel hHeld) (by exact(NTL.out.bel BWC.out).bel hHeld) (by simp) OW.out CW.out).mono ?_
       rintro e w8q ⟨rv,rfl,hr5,hb5⟩
       rw[HU.out]at hr5
       obtain⟨a5,b5,c5,d5,rfl⟩:=hr5.form
       refine hK.out _ _ (bel_trans hHeld hb5) (fun hHeld2=>?_)
       have UI:=hidI hr5
       have HB8:=hidI hHeld
       have HS8:=hidI hHeld.size
       clear hb5 hr5
       clear hK K
       replace hHeld:=hHeld2
       clear hHeld2
       try simp only[Act.put,List.setIfInBounds_toArray,List.set_cons_zero,List.set_cons_succ])
     |(refine cns (i:=9) (o:=_) rfl (fun K hK=>?_) ?_
       go_simp
       refine(with_is _ (okN (fun k=>ok k/\k < w.heap.size) wc.heap.size) o u _ _ n (by exact okn_low ((OI.out.bel BWC.out).bel hHeld)) (by exact UI.out.weak fun k hk=>hk.imp id fun h9=>Nat.le_trans HS8.out h9) PO.out LO.out NL.out).mono ?_
       rintro e w9q ⟨rv,rfl,hr5,hb5⟩
       rw[HY.out]at hr5
       obtain⟨a4,b4,c4,d4,rfl⟩:=hr5.form
       refine hK.out _ _ (bel_trans hHeld hb5) (fun hHeld2=>?_)
       have YI:Hid (In _ (lowN ok w.heap.size wc.heap.size) y _):=hidI (hr5.weak fun k hk=>by rcases hk with hk | hk;exact hk;exact Or.inr (Nat.le_trans hHeld.size hk))
       clear hb5 hr5
       clear hK K
       replace hHeld:=hHeld2
       clear hHeld2
       try simp only[Act.put,List.setIfInBounds_toArray,List.set_cons_zero,List.set_cons_succ])
     |(refine lst (i:=10) (o:=_) (by decide +kernel) rfl (fun K hK=>?_)
       have HB:=hidI (box_bel hHeld RB.out)
       obtain⟨n0,n1,n2,n3,n4,m0,m1,m2,m3,m4⟩:=HB.out.c
       have ZB:=hidI (HB.out.set (.int .i64 y.kind) (.int .i64 y.n) (.string ⟨y.s.toArray⟩) (.slice a4 y.keys.length c4) (.slice b4 y.l.length d4))
       have Z:=hidI (set_out2 (w:=w) (ok:=ok) (C:=wc.heap.size) (g:=(w.heap.size+2)) YI.out (bel_trans BC.out hHeld) (by omega) (by have:=SC.out;omega))
       go_simp
       refine hK.out _ _ ?_
       clear hK K
       try simp only[Act.put,List.setIfInBounds_toArray,List.set_cons_zero,List.set_cons_succ])
     | refine rdy [8] (by decide +kernel) ?_
     | refine rdy [9] (by decide +kernel) ?_
     | fail)
    all_goals
     refine dn (by kernel_rfl) ?_
     clear n0 n1 n2 n3 n4 m0 m1 m2 m3 m4
     go_wp2_with fail
     obtain⟨z0,z1,z2,z3,z4,-⟩:=ZB.out.c
     refine bodyPost_ret (v:=.agg #[.int .i64 y.kind,.int .i64 y.n,.string ⟨y.s.toArray⟩,.slice a4 y.keys.length c4,.slice b4 y.l.length d4]) ?_ rfl ?_
     ·simp only[set5]at z0 z1 z2 z3 z4
      simp[results,Tryz.results57,go_sem,z0,z1,z2,z3,z4]
     ·exact⟨_,rfl,by rw[RES.out];exact Z.out.2,Z.out.1⟩
end Go.Proofs.YtmdemcjmcnfjmaaGreatDoor
