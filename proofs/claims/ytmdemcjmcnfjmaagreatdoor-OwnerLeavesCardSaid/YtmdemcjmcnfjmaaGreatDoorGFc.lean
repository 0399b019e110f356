/- What CopyValue of package stairwellref does. -/
import Derived.Test.YtmdemcjmcnfjmaaGreatDoorGShp
import Derived.Test.YtmdemcjmcnfjmaaGreatDoorGRe
import Derived.Shelf.Vars
import Derived.Test.YtmdemcjmcnfjmaaGreatDoorRows
import Derived.Deep.QuietTactic
import Derived.BigQuiet
import Derived.Deep.RegionHeld3
import Derived.Deep.DeepCutAuto
import Derived.Deep.CutBlock
import Derived.Deep.DrawnRows
import Derived.Deep.AppendLies
import Derived.Maps.AppendAt
import Derived.Laws.AppendOwnNone
import Derived.Deep.RegionLaw
set_option linter.unusedSimpArgs false
set_option linter.unusedVariables false
namespace Go.Proofs.YtmdemcjmcnfjmaaGreatDoor
open Go.RowKit
def GlobM (w:World):Prop:=∃ m,w.cell? ⟨0,0,none⟩=some (.int .i64 m)
theorem GlobM.bel {w w':World} (h:GlobM w) (hb:Below w.heap.size w w'):GlobM w':=by
 obtain⟨m,hm⟩:=h
 exact⟨m,(World.cell?_of_block (hb.block _ (World.block_lt_of_cell? w _ hm))).trans hm⟩
theorem countB_le' (s sub:ByteArray) (h:1<=sub.size):Lib.countB s sub<=s.size:=Lib.countB_le sub h s.size s (Nat.le_refl _)
theorem repl_len {old new:List UInt8} (hne:old≠[]) (hd:old≠new) (hl:new.length<=old.length) (n:Nat):∀ s:List UInt8,s.length<=n->(Lib.replaceAll s old new).length<=s.length:=by
 induction n with
 | zero=>
  intro s hs
  obtain rfl:s=[]:=List.eq_nil_of_length_eq_zero (by omega)
  rw[repl_nil hne hd]
  exact Nat.le_refl _
 | succ n ih=>
  intro s hs
  cases s with
  | nil=>rw[repl_nil hne hd];exact Nat.le_refl _
  | cons c r=>
   cases hp:old.isPrefixOf (c :: r) with
   | true=>
    obtain⟨t,ht⟩:=List.isPrefixOf_iff_prefix.1 hp
    have hpos:0 < old.length:=List.length_pos_iff.2 hne
    have hlen:=congrArg List.length ht
    simp only[List.length_append,List.length_cons]at hlen hs
    rw[<-ht,repl_hit hne hd]
    have:=ih t (by omega)
    simp only[List.length_append];omega
   | false=>
    rw[repl_skip hne hd hp]
    have:=ih r (by simp at hs;omega)
    simp only[List.length_cons];omega
theorem count_room (s old new:List UInt8) (h:1<=old.length) (hn:new.length<=2):(ByteArray.mk s.toArray).size+Lib.countB ⟨s.toArray⟩ ⟨old.toArray⟩ * (ByteArray.mk new.toArray).size<=3 * s.length:=by
 have h1:=countB_le' ⟨s.toArray⟩ ⟨old.toArray⟩ (by rw[ba_size];exact h)
 rw[ba_size]at h1
 rw[ba_size,ba_size]
 have:Lib.countB ⟨s.toArray⟩ ⟨old.toArray⟩ * new.length<=s.length * 2:=Nat.mul_le_mul h1 hn
 omega
theorem repl_at (w:World) (s old new:List UInt8) (hs:s.length<=40000000) (ho:1<=old.length) (hn:new.length<=2) (hM:GlobM w) :
 Calls Tryz.prog 74 #[.string ⟨s.toArray⟩,.string ⟨old.toArray⟩,.string ⟨new.toArray⟩] w fun e w'=>e=.returned (.string ⟨(Lib.replaceAll s old new).toArray⟩)/\Below w.heap.size w w':=by
 obtain⟨m,hm⟩:=hM
 have h1:=count_room s old new ho hn
 exact Tryz.strings_ReplaceAll ⟨s.toArray⟩ ⟨old.toArray⟩ ⟨new.toArray⟩ m w (by rw[ba_size];omega) hm (by rw[ba_size];exact ho) (by omega)
set_option maxRecDepth 100000 in
set_option maxHeartbeats 1000000 in
theorem unmarked_at (w:World) (s:List UInt8) (hs:s.length<=1000000) (hM:GlobM w) :
 Calls Tryz.prog 41 #[str s] w fun e w'=>e=.returned (str (unmarkedL s))/\Below w.heap.size w w':=by
 have HM:=hidI hM
 clear hM
 unfold str
 go_enter Tryz.func41,Tryz.ntmps41
 go_wp2_with fail
 refine(repl_at _ s [126,49] [47] (by omega) (by simp) (by simp) (by exact HM.out)).mono ?_
 rintro e w1 ⟨rfl,hb1⟩
 have HB1:=hidI hb1
 have HM1:=hidI (HM.out.bel hb1)
 have hl:(Lib.replaceAll s [126,49] [47]).length<=s.length:=repl_len (by simp) (by simp) (by simp) _ s (Nat.le_refl _)
 clear hb1
 go_wp2_with fail
 refine(repl_at _ (Lib.replaceAll s [126,49] [47]) [126,48] [126] (by omega) (by simp) (by simp) (by exact HM1.out)).mono ?_
 rintro e w2 ⟨rfl,hb2⟩
 have HB2:=hidI hb2
 clear hb2
 go_wp2_with fail
 go_ret
 exact⟨rfl,bel_trans HB1.out HB2.out⟩
end Go.Proofs.YtmdemcjmcnfjmaaGreatDoor
namespace Go.Proofs.YtmdemcjmcnfjmaaGreatDoor
open Go.ChangeShapes Go.WideShapes Go.ChangeAt Go.RowKit
set_option maxRecDepth 100000 in
theorem glob_pt {W:World} (h:W.ShapedOpen Tryz.prog):GlobM W:=
 cell_of_shapedOpen_int (t:=3) (zero:=#[.int .i64 0]) h (of_decide_eq_true (by kernel_rfl)) (by kernel_rfl) rfl (by kernel_rfl) (by kernel_rfl) Tryz.underlying3
end Go.Proofs.YtmdemcjmcnfjmaaGreatDoor
namespace Go.Proofs.YtmdemcjmcnfjmaaGreatDoor
open Go.ChangeShapes Go.WideShapes Go.ChangeAt Go.RowKit
set_option maxRecDepth 100000
theorem bulk_strs {H:Type}:∀ (ss:List ByteArray),Rows.uptoBulkAll (strs (H:=H) ss)=(ss.map fun s=>s.data.toList.length+1).sum
 | []=>by simp[strs,Rows.uptoBulkAll]
 | s :: ss=>by
  have h:=bulk_strs (H:=H) ss
  simp only[strs,List.map_cons,Rows.uptoBulkAll,Rows.uptoBulk,List.sum_cons]at h ⊢
  rw[h]
theorem strs_full {H:Type} {enc:TypeId × Value->H} {W:World} {fuel:Nat} {v:Value} {x:DataW H × List MemPlace} (h:DataW.trod enc Tryz.prog W 0 (fun _=>true) true fuel 22 [v]=some x) :
 ∃ ks,StrsAre W (fun _=>True) ks v/\(ks.map fun x=>x.length+1).sum<=Rows.uptoBulk x.1:=by
 rcases open_strings Tryz.underlying22 Tryz.underlying9 cellsString h with⟨e,-⟩ | ⟨a,len,cap,ss,e,-,hl,hm,hss,hx,hc,hz⟩
 ·simp only[List.cons.injEq,and_true]at e
  exact⟨[],⟨by simp[maxLen],.inl ⟨rfl,none,e⟩⟩,by simp⟩
 ·simp only[List.cons.injEq,and_true]at e
  simp only[if_true]at hss
  refine⟨(ss.take len).map fun s=>s.data.toList,⟨?_,?_⟩,?_⟩
  ·simp only[List.length_map,List.length_take];omega
  ·have hlen:((ss.take len).map fun s=>s.data.toList).length=len:=by simp only[List.length_map,List.length_take];omega
   by_cases h0:cap=0
   ·have:len=0:=by omega
    subst this
    subst h0
    exact .inl ⟨by simp,some a,e⟩
   ·have ha:=addr_plain (spot_none (by have:=hc 0 (by omega);simpa [Addr.add] using this))
    refine .inr ⟨a.block,a.off,cap,by rw[hlen,<-ha];exact e,by omega,hm,fun i y hy=>?_⟩
    simp only[List.getElem?_map,Option.map_eq_some_iff]at hy
    obtain⟨s,hs,rfl⟩:=hy
    have hs2:ss[i]?=some s:=by
     rw[List.getElem?_take]at hs
     split at hs
     ·exact hs
     ·cases hs
    have hi:=(List.getElem?_eq_some_iff.1 hs2).1
    refine⟨by rw[Array.length_toList];exact hz s (List.mem_of_getElem? hs2),trivial,?_⟩
    have:=hc i hi
    rw[ha,addr_add]at this
    rw[this]
    unfold str
    simp[List.getD,hs2]
  ·rw[hx]
   simp only[Rows.uptoBulk,bulk_strs,List.map_map,Function.comp_def]
   omega
end Go.Proofs.YtmdemcjmcnfjmaaGreatDoor
namespace Go.Proofs.YtmdemcjmcnfjmaaGreatDoor
open Go.RowKit
def plainB (s:List UInt8):Bool:=decide (s.length<=60)&&s.all fun c=>decide (c.toNat < 128)
def riseFrom (prev:Option (List UInt8)):List (List UInt8)->Bool
 | []=>true
 | k :: ks=>plainB k&&(match prev with | none=>true | some p=>Op.bytesLess p k)&&riseFrom (some k) ks
def listlessB (t:V):Bool:=decide (t.keys.length=0)&&decide (t.l.length=0)
def shapedB (t:V):Bool:=
 if t.kind=0 then decide (t.n=0)&&decide (t.s=[])&&listlessB t
 else if t.kind=1 then (decide (t.n=0) || decide (t.n=1))&&decide (t.s=[])&&listlessB t
 else if t.kind=2 then decide (-9007199254740992<=t.n)&&decide (t.n<=9007199254740992)&&decide (t.s=[])&&listlessB t
 else if t.kind=3 then decide (t.n=0)&&plainB t.s&&listlessB t
 else if t.kind=4 then decide (t.n=0)&&decide (t.s=[])&&decide (t.keys.length=0)
 else if t.kind=5 then decide (t.n=0)&&decide (t.s=[])&&decide (t.keys.length=t.l.length)&&riseFrom none t.keys
 else false
set_option maxRecDepth 100000 in
set_option maxHeartbeats 1000000 in
theorem plain_at (w:World) (s:List UInt8) (hs:s.length<=maxLen) :
 Calls Tryz.prog 112 #[str s] w fun e w'=>e=.returned (.bool (plainB s))/\w'=w:=by
 unfold maxLen at hs
 unfold str
 by_cases h60:s.length<=60
 ·have e0:¬(60 < (s.length:Int)):=by omega
  go_enter Tryz.func112,Tryz.ntmps112
  go_wp2_with fail
  go_loop [3] (fun i=>∃ k:Nat,k<=s.length/\i=.int .i64 k/\(s.take k).all (fun c=>decide (c.toNat < 128))=true) (fun i=>s.length - (intOf i).toNat)
  case atStart=>exact⟨0,Nat.zero_le _,rfl,rfl⟩
  case round=>
   obtain⟨k,hk,rfl,hall⟩:=hrel
   have HA:=hidI hall
   clear hall
   by_cases hlt:k < s.length
   ·have hb:(s[k].toNat:Int) < 256:=by have:=s[k].toNat_lt;omega
    have hsz:k < (ByteArray.mk s.toArray).size:=by simpa [ByteArray.size] using hlt
    have hget:(ByteArray.mk s.toArray)[k]=s[k]:=rfl
    by_cases hc:s[k].toNat < 128
    ·have hc':¬(128<=(s[k].toNat:Int)):=by omega
     go_wp2_with fail
     go_round
     case rel=>
      refine⟨k+1,by omega,by go_num,?_⟩
      rw[List.take_add_one,List.getElem?_eq_getElem hlt,List.all_append,HA.out]
      simp[hc]
     case measure=>simp[intOf];omega
    ·have hc':128<=(s[k].toNat:Int):=by omega
     go_wp2_with fail
     go_ret
     refine⟨?_,rfl⟩
     have:plainB s=false:=by
      unfold plainB
      rw[Bool.and_eq_false_iff]
      right
      rw[List.all_eq_false]
      exact⟨s[k],List.getElem_mem _,by simp;omega⟩
     rw[this];rfl
   ·have hke:k=s.length:=by omega
    subst hke
    go_wp2_with fail
    go_ret
    refine⟨?_,rfl⟩
    have:plainB s=true:=by
     have:=HA.out
     rw[List.take_length]at this
     simp[plainB,h60,this]
    rw[this];rfl
 ·have e0:60 < (s.length:Int):=by omega
  go_enter Tryz.func112,Tryz.ntmps112
  go_wp2_with fail
  go_ret
  exact⟨by rw[show plainB s=false by simp[plainB,h60]];rfl,rfl⟩
set_option maxRecDepth 100000 in
set_option maxHeartbeats 1000000 in
theorem listless_raw (w:World) (k n:Int) (s:ByteArray) (a1 a2:Option Addr) (m1 m2 c1 c2:Nat) (l1:m1<=2 ^ 63 - 1) (l2:m2<=2 ^ 63 - 1) :
 Calls Tryz.prog 111 #[.agg #[.int .i64 k,.int .i64 n,.string s,.slice a1 m1 c1,.slice a2 m2 c2]] w fun e w'=>e=.returned (.bool (decide (m1=0)&&decide (m2=0)))/\Below w.heap.size w w':=by
 by_cases hk:m1=0
 ·have e1:((m1:Int) == 0)=true:=by simp[hk]
  have HK:=hidI hk
  clear hk
  by_cases hl:m2=0
  ·have e2:((m2:Int) == 0)=true:=by simp[hl]
   have HL:=hidI hl
   clear hl
   go_enter Tryz.func111,Tryz.ntmps111
   go_wp2
   go_ret
   exact⟨by rw[show (decide (m1=0)&&decide (m2=0))=true by simp[HK.out,HL.out]];rfl,bel_alloc _ _⟩
  ·have e2:((m2:Int) == 0)=false:=by rw[beq_eq_false_iff_ne];omega
   go_enter Tryz.func111,Tryz.ntmps111
   go_wp2
   go_ret
   exact⟨by rw[show (decide (m1=0)&&decide (m2=0))=false by simp only[Bool.and_eq_false_iff,decide_eq_false_iff_not];right;omega];rfl,bel_alloc _ _⟩
 ·have e1:((m1:Int) == 0)=false:=by rw[beq_eq_false_iff_ne];omega
  go_enter Tryz.func111,Tryz.ntmps111
  go_wp2
  go_ret
  exact⟨by rw[show (decide (m1=0)&&decide (m2=0))=false by simp only[Bool.and_eq_false_iff,decide_eq_false_iff_not];left;omega];rfl,bel_alloc _ _⟩
def prevAt (xs:List (List UInt8)) (i:Nat):Option (List UInt8):=if i=0 then none else xs[i - 1]?
theorem riseFrom_step {xs:List (List UInt8)} {k:Nat} (h:k < xs.length):riseFrom (prevAt xs k) (xs.drop k)=(plainB xs[k]&&(match prevAt xs k with | none=>true | some p=>Op.bytesLess p xs[k])&&riseFrom (prevAt xs (k+1)) (xs.drop (k+1))):=by
 rw[List.drop_eq_getElem_cons h]
 have e:prevAt xs (k+1)=some xs[k]:=by simp[prevAt,List.getElem?_eq_getElem h]
 rw[e];rfl
set_option maxRecDepth 100000 in
set_option maxHeartbeats 1000000 in
theorem rising_at (w:World) (ok:Nat->Prop) (xs:List (List UInt8)) (v:Value) (h:StrsAre w ok xs v) :
 Calls Tryz.prog 113 #[v] w fun e w'=>e=.returned (.bool (riseFrom none xs))/\w'=w:=by
 obtain⟨hm,hx⟩:=h
 obtain⟨a,c,rfl⟩:=StrsAre.form ⟨hm,hx⟩
 unfold maxLen at hm
 have HX:=hidI hx
 clear hx
 go_enter Tryz.func113,Tryz.ntmps113
 go_wp2_with fail
 go_loop [7] (fun i=>∃ k:Nat,k<=xs.length/\i=.int .i64 k/\riseFrom none xs=riseFrom (prevAt xs k) (xs.drop k)) (fun i=>xs.length - (intOf i).toNat)
 case atStart=>exact⟨0,Nat.zero_le _,rfl,rfl⟩
 case round=>
  obtain⟨k,hk,rfl,hr⟩:=hrel
  have HR:=hidI hr
  clear hr
  by_cases hlt:k < xs.length
  ·rcases HX.out with⟨e,_⟩ | ⟨b,off,c',hv,hc1,hc2,hcs⟩
   ·rw[e]at hlt;simp at hlt
   simp only[Value.slice.injEq]at hv
   obtain⟨rfl,-,rfl⟩:=hv
   have hcell:=(hcs k xs[k] (List.getElem?_eq_getElem hlt)).2.2
   have hl9:=(hcs k xs[k] (List.getElem?_eq_getElem hlt)).1
   have S:=hidI (riseFrom_step hlt)
   have hprev:∀ j,k=j+1->w.cell? ⟨b,off+j,none⟩=some (str xs[k - 1]):=by
    intro j hj
    subst hj
    exact(hcs j xs[j] (List.getElem?_eq_getElem (by omega))).2.2
   have HPV:=hidI hprev
   clear hcs hprev
   unfold str at hcell
   cases hpl:plainB xs[k] with
   | false=>
    have HPL:=hidI hpl
    clear hpl
    go_wp2_with (go_at_call 112;refine(plain_at _ xs[k] hl9).mono ?_;rintro e w' ⟨rfl,rfl⟩;rw[HPL.out])
    go_ret
    refine⟨?_,rfl⟩
    rw[HR.out,S.out,HPL.out];rfl
   | true=>
    have HPL:=hidI hpl
    clear hpl
    cases k with
    | zero=>
     have z:prevAt xs 0=none:=rfl
     rw[Nat.add_zero]at hcell
     go_wp2_with (go_at_call 112;refine(plain_at _ xs[0] hl9).mono ?_;rintro e w' ⟨rfl,rfl⟩;rw[HPL.out])
     go_round
     case rel=>exact⟨1,by omega,by go_num,by rw[HR.out,S.out,HPL.out,z];rfl⟩
     case measure=>simp[intOf];omega
    | succ j=>
     have hpc:=HPV.out j rfl
     unfold str at hpc
     have z:prevAt xs (j+1)=some xs[j]:=by simp[prevAt,List.getElem?_eq_getElem (show j < xs.length by omega)]
     have j0:(0:Int) < ((j+1:Nat):Int):=by omega
     have Z:=hidI z
     clear z
     cases hbl:Op.bytesLess xs[j] xs[j+1] with
     | true=>
      have HBL:=hidI hbl
      go_wp2_with (go_at_call 112;refine(plain_at _ xs[j+1] hl9).mono ?_;rintro e w' ⟨rfl,rfl⟩;rw[HPL.out])
      go_round
      case rel=>exact⟨j+1+1,by omega,by go_num,by rw[HR.out,S.out,HPL.out,Z.out];simp only[HBL.out];rfl⟩
      case measure=>simp[intOf];omega
     | false=>
      have HBL:=hidI hbl
      go_wp2_with (go_at_call 112;refine(plain_at _ xs[j+1] hl9).mono ?_;rintro e w' ⟨rfl,rfl⟩;rw[HPL.out])
      go_ret
      refine⟨?_,rfl⟩
      rw[HR.out,S.out,HPL.out,Z.out];simp only[HBL.out];rfl
  ·have hke:k=xs.length:=by omega
   subst hke
   go_wp2_with fail
   go_ret
   refine⟨?_,rfl⟩
   rw[HR.out,List.drop_length];rfl
end Go.Proofs.YtmdemcjmcnfjmaaGreatDoor
namespace Go.Proofs.YtmdemcjmcnfjmaaGreatDoor
open Go.RowKit
set_option maxRecDepth 100000 in
set_option maxHeartbeats 4000000 in
theorem shaped_at (w:World) (ok:Nat->Prop) (d:Nat) (t:V) (v:Value) (h:VIs w ok d t v) :
 Calls Tryz.prog 70 #[v] w fun e w'=>e=.returned (.bool (shapedB t))/\Below w.heap.size w w':=by
 have H:=hidI h
 match d,h with
 | d+1,h=>
  obtain⟨ks,ls,rfl,h1,h2,h3,h4,h5⟩:=h
  have K4:=hidI h4
  have HS:=hidI h3
  obtain⟨a1,c1,rfl⟩:=h4.form
  obtain⟨a2,c2,rfl⟩:=h5.form
  have l1:=h4.1
  have l2:=h5.1
  unfold maxLen at l1 l2 h3
  unfold str
  clear h4 h5 h1 h2
  by_cases k0:t.kind=0
  ·have e0:(t.kind == 0)=true:=by simp[k0]
   have K:=hidI k0
   clear k0
   go_enter Tryz.func70,Tryz.ntmps70
   go_wp2_with (go_at_call 111;refine(listless_raw _ _ _ _ _ _ _ _ _ _ l1 l2).mono ?_;rintro e w1 ⟨rfl,hb1⟩)
   all_goals
    go_ret
    have kk:=K.out
    refine⟨?_,?_⟩
    ·(simp_all [shapedB,listlessB]) <;> (intros;omega)
    ·first | exact bel_trans (bel_alloc _ _) (by assumption) | exact bel_alloc _ _
  by_cases k1:t.kind=1
  ·have e1:(t.kind == 1)=true:=by simp[k1]
   have f0:(t.kind == 0)=false:=by simp[k1]
   have K:=hidI k1
   clear k1
   go_enter Tryz.func70,Tryz.ntmps70
   go_wp2_with (go_at_call 111;refine(listless_raw _ _ _ _ _ _ _ _ _ _ l1 l2).mono ?_;rintro e w1 ⟨rfl,hb1⟩)
   all_goals
    go_ret
    have kk:=K.out
    refine⟨?_,?_⟩
    ·(simp_all [shapedB,listlessB]) <;> (intros;omega)
    ·first | exact bel_trans (bel_alloc _ _) (by assumption) | exact bel_alloc _ _
  by_cases k2:t.kind=2
  ·have e2:(t.kind == 2)=true:=by simp[k2]
   have f0:(t.kind == 0)=false:=by simp[k2]
   have f1:(t.kind == 1)=false:=by simp[k2]
   have K:=hidI k2
   clear k2
   go_enter Tryz.func70,Tryz.ntmps70
   go_wp2_with (go_at_call 111;refine(listless_raw _ _ _ _ _ _ _ _ _ _ l1 l2).mono ?_;rintro e w1 ⟨rfl,hb1⟩)
   all_goals
    go_ret
    have kk:=K.out
    refine⟨?_,?_⟩
    ·(simp_all [shapedB,listlessB]) <;> (intros;omega)
    ·first | exact bel_trans (bel_alloc _ _) (by assumption) | exact bel_alloc _ _
  by_cases k3:t.kind=3
  ·have e3:(t.kind == 3)=true:=by simp[k3]
   have f0:(t.kind == 0)=false:=by simp[k3]
   have f1:(t.kind == 1)=false:=by simp[k3]
   have f2:(t.kind == 2)=false:=by simp[k3]
   have K:=hidI k3
   clear k3
   go_enter Tryz.func70,Tryz.ntmps70
   go_wp2_with (first | (go_at_call 112;refine(plain_at _ t.s HS.out).mono ?_;rintro e w1 ⟨rfl,rfl⟩) | (go_at_call 111;refine(listless_raw _ _ _ _ _ _ _ _ _ _ l1 l2).mono ?_;rintro e w1 ⟨rfl,hb1⟩))
   all_goals
    go_ret
    have kk:=K.out
    refine⟨?_,?_⟩
    ·(simp_all [shapedB,listlessB]) <;> (intros;omega)
    ·first | exact bel_trans (bel_alloc _ _) (by assumption) | exact bel_alloc _ _
  by_cases k4:t.kind=4
  ·have e4:(t.kind == 4)=true:=by simp[k4]
   have f0:(t.kind == 0)=false:=by simp[k4]
   have f1:(t.kind == 1)=false:=by simp[k4]
   have f2:(t.kind == 2)=false:=by simp[k4]
   have f3:(t.kind == 3)=false:=by simp[k4]
   have K:=hidI k4
   clear k4
   by_cases hl:t.keys.length=0
   ·have hlb:((t.keys.length:Int) == 0)=true:=by simp[hl]
    have HL:=hidI hl
    clear hl
    go_enter Tryz.func70,Tryz.ntmps70
    go_wp2_with fail
    all_goals
     go_ret
     have kk:=K.out
     have hl:=HL.out
     refine⟨?_,?_⟩
     ·simp_all [shapedB,listlessB]
     ·first | exact bel_trans (bel_alloc _ _) (by assumption) | exact bel_alloc _ _
   ·have hlb:((t.keys.length:Int) == 0)=false:=by rw[beq_eq_false_iff_ne];omega
    have HL:=hidI hl
    clear hl
    go_enter Tryz.func70,Tryz.ntmps70
    go_wp2_with fail
    all_goals
     go_ret
     have kk:=K.out
     have hl:=HL.out
     refine⟨?_,?_⟩
     ·simp_all [shapedB,listlessB]
     ·first | exact bel_trans (bel_alloc _ _) (by assumption) | exact bel_alloc _ _
  by_cases k5:t.kind=5
  ·have e5:(t.kind == 5)=true:=by simp[k5]
   have f0:(t.kind == 0)=false:=by simp[k5]
   have f1:(t.kind == 1)=false:=by simp[k5]
   have f2:(t.kind == 2)=false:=by simp[k5]
   have f3:(t.kind == 3)=false:=by simp[k5]
   have f4:(t.kind == 4)=false:=by simp[k5]
   have K:=hidI k5
   clear k5
   by_cases hl:t.keys.length=t.l.length
   ·have hlb:((t.keys.length:Int) == (t.l.length:Int))=true:=by simp[hl]
    have HL:=hidI hl
    clear hl
    go_enter Tryz.func70,Tryz.ntmps70
    go_wp2_with (go_at_call 113;refine(rising_at _ ok t.keys _ (by exact K4.out.bel (bel_alloc _ _))).mono ?_;rintro e w1 ⟨rfl,rfl⟩)
    all_goals
     go_ret
     have kk:=K.out
     have hl:=HL.out
     refine⟨?_,?_⟩
     ·simp_all [shapedB,listlessB]
     ·first | exact bel_trans (bel_alloc _ _) (by assumption) | exact bel_alloc _ _
   ·have hlb:((t.keys.length:Int) == (t.l.length:Int))=false:=by rw[beq_eq_false_iff_ne];omega
    have HL:=hidI hl
    clear hl
    go_enter Tryz.func70,Tryz.ntmps70
    go_wp2_with fail
    all_goals
     go_ret
     have kk:=K.out
     have hl:=HL.out
     refine⟨?_,?_⟩
     ·simp_all [shapedB,listlessB]
     ·first | exact bel_trans (bel_alloc _ _) (by assumption) | exact bel_alloc _ _
  ·have g0:(t.kind == 0)=false:=by simp[k0]
   have g1:(t.kind == 1)=false:=by simp[k1]
   have g2:(t.kind == 2)=false:=by simp[k2]
   have g3:(t.kind == 3)=false:=by simp[k3]
   have g4:(t.kind == 4)=false:=by simp[k4]
   have g5:(t.kind == 5)=false:=by simp[k5]
   have F:Hid (shapedB t=false):=hidI (by simp[shapedB,k0,k1,k2,k3,k4,k5])
   clear k0 k1 k2 k3 k4 k5
   go_enter Tryz.func70,Tryz.ntmps70
   go_wp2_with fail
   go_ret
   exact⟨by rw[F.out];rfl,bel_alloc _ _⟩
end Go.Proofs.YtmdemcjmcnfjmaaGreatDoor
namespace Go.Proofs.YtmdemcjmcnfjmaaGreatDoor
open Go.RowKit
def goodS:Nat->V->Int->Bool × Int
 | 0,_,r=>(false,r - 1)
 | d+1,t,r=>if r - 1 < 0\/shapedB t=false then (false,r - 1) else t.l.foldl (fun p x=>if p.1 then goodS d x p.2 else p) (true,r - 1)
def goodV (t:V):Bool:=(goodS 12 t 120).1
theorem foldl_false {d:Nat} (l:List V) (r:Int):l.foldl (fun p x=>if p.1 then goodS d x p.2 else p) (false,r)=(false,r):=by
 induction l with
 | nil=>rfl
 | cons x l ih=>simpa using ih
theorem fold_room {d:Nat} (ih:∀ t r,0<=r->-1<=(goodS d t r).2/\(goodS d t r).2<=r/\((goodS d t r).1=true->0<=(goodS d t r).2)) (l:List V):∀ r,0<=r ->
 -1<=(l.foldl (fun p x=>if p.1 then goodS d x p.2 else p) (true,r)).2/\(l.foldl (fun p x=>if p.1 then goodS d x p.2 else p) (true,r)).2<=r/\((l.foldl (fun p x=>if p.1 then goodS d x p.2 else p) (true,r)).1=true->0<=(l.foldl (fun p x=>if p.1 then goodS d x p.2 else p) (true,r)).2):=by
 induction l with
 | nil=>intro r h;exact⟨by simp only[List.foldl_nil];omega,by simp,fun _=>h⟩
 | cons x l ihl=>
  intro r h
  rw[List.foldl_cons]
  simp only[if_true]
  obtain⟨h1,h2,h3⟩:=ih x r h
  cases hb:(goodS d x r).1 with
  | true=>
   have e:goodS d x r=(true,(goodS d x r).2):=by rw[<-hb]
   rw[e]
   obtain⟨g1,g2,g3⟩:=ihl (goodS d x r).2 (h3 hb)
   exact⟨g1,by omega,g3⟩
  | false=>
   have e:goodS d x r=(false,(goodS d x r).2):=by rw[<-hb]
   rw[e,foldl_false]
   exact⟨h1,h2,by simp⟩
theorem goodS_room (d:Nat):∀ t r,0<=r->-1<=(goodS d t r).2/\(goodS d t r).2<=r/\((goodS d t r).1=true->0<=(goodS d t r).2):=by
 induction d with
 | zero=>intro t r h;simp only[goodS];exact⟨by omega,by omega,by simp⟩
 | succ d ih=>
  intro t r h
  simp only[goodS]
  split
  ·exact⟨by simp only;omega,by simp only;omega,by simp⟩
  ·rename_i hc
   obtain⟨g1,g2,g3⟩:=fold_room ih t.l (r - 1) (by omega)
   exact⟨g1,by omega,g3⟩
def gfold (d:Nat) (l:List V) (r:Int):Bool × Int:=l.foldl (fun p x=>if p.1 then goodS d x p.2 else p) (true,r)
theorem gfold_step {d:Nat} {l:List V} {k:Nat} {x:V} {r p:Int} (hx:l[k]?=some x) (h:gfold d (l.take k) r=(true,p)):gfold d (l.take (k+1)) r=goodS d x p:=by
 unfold gfold at h ⊢
 rw[List.take_add_one,hx,List.foldl_append,h];rfl
theorem gfold_false {d:Nat} {l:List V} {k:Nat} {r p:Int} (h:gfold d (l.take k) r=(false,p)):gfold d l r=(false,p):=by
 unfold gfold at h ⊢
 have e:l=l.take k++l.drop k:=(List.take_append_drop k l).symm
 rw[e,List.foldl_append,h,foldl_false]
theorem VIs.shape {w:World} {ok:Nat->Prop} {d:Nat} {t:V} {v:Value} (h:VIs w ok d t v):∃ (a7 a8:Option Addr) (c7 c8:Nat),v=.agg #[.int .i64 t.kind,.int .i64 t.n,.string ⟨t.s.toArray⟩,.slice a7 t.keys.length c7,.slice a8 t.l.length c8]:=by
 match d,h with
 | d+1,h=>
  obtain⟨ks,ls,e,h1,h2,h3,h4,h5⟩:=h
  obtain⟨a1,c1,rfl⟩:=h4.form
  obtain⟨a2,c2,rfl⟩:=h5.form
  exact⟨_,_,_,_,e⟩
def RoomIs (w:World) (g:Nat) (r:Int):Prop:=w.heap[g]?=some (.cells #[.int .i64 r] 3)
theorem RoomIs.c {w:World} {g:Nat} {r:Int} (h:RoomIs w g r):w.cell? ⟨g,0,none⟩=some (.int .i64 r)/\w.frozen? ⟨g,0,none⟩=false:=by
 unfold RoomIs at h
 exact⟨by simp[World.cell?,h],by simp[World.frozen?,h]⟩
theorem RoomIs.lt {w:World} {g:Nat} {r:Int} (h:RoomIs w g r):g < w.heap.size:=(Array.getElem?_eq_some_iff.1 h).1
theorem gb_out {a w w':World} {r:Option Nat} {g:Nat} (h:a.grownBy w r) (hg:w.grownBy w' (some g)) (hag:a.heap.size<=g):a.grownBy w' r:=
 ⟨hg.os.trans h.os,hg.tape.trans h.tape,hg.output.trans h.output,Nat.le_trans h.size hg.size,fun i hi hr=>(hg.block i (Nat.lt_of_lt_of_le hi h.size) (fun e=>by cases e;omega)).trans (h.block i hi hr)⟩
theorem roomset {w:World} {g:Nat} {r:Int} (h:RoomIs w g r) (r':Int) (o:Obj):RoomIs ((w.setCell ⟨g,0,none⟩ (.int .i64 r')).alloc o) g r':=by
 have h1:(w.setCell ⟨g,0,none⟩ (.int .i64 r')).heap[g]?=some (.cells #[.int .i64 r'] 3):=heap_set h 0 _
 exact((World.grownBy_alloc _ o none).block g (Array.getElem?_eq_some_iff.1 h1).1 (by simp)).trans h1
def GoodC (D:Nat):Prop:=∀ (w:World) (ok:Nat->Prop) (d:Nat) (t:V) (v:Value) (g:Nat) (r:Int),VIs w ok d t v->(∀ k,ok k->k≠g)->RoomIs w g r->0<=r->r<=120 ->
 Calls Tryz.prog 36 #[v,.int .i64 D,.pointer (some ⟨g,0,none⟩)] w fun e w'=>e=.returned (.bool (goodS D t r).1)/\RoomIs w' g (goodS D t r).2/\w.grownBy w' (some g)
set_option maxRecDepth 100000 in
set_option maxHeartbeats 4000000 in
theorem good_zero:GoodC 0:=by
 intro w ok d t v g r hv hok hr h0 h1
 obtain⟨a7,a8,c7,c8,rfl⟩:=hv.shape
 have HR:=hidI hr
 have hgl:=hr.lt
 have hr2:RoomIs (w.alloc (.cells #[.int .i64 t.kind,.int .i64 t.n,.string ⟨t.s.toArray⟩,.slice a7 t.keys.length c7,.slice a8 t.l.length c8] 25)) g r:=((World.grownBy_alloc w _ none).block g hgl (by simp)).trans hr
 obtain⟨c0,f0⟩:=hr2.c
 have HR2:=hidI hr2
 clear hr hv hr2
 go_enter Tryz.func36,Tryz.ntmps36
 go_wp2_with fail
 go_ret
 exact⟨rfl,roomset HR.out _ _,gb_alloc (gb_set (gb_refl _ _) _ _) _⟩
set_option maxRecDepth 100000 in
set_option maxHeartbeats 4000000 in
theorem good_succ (D:Nat) (hD:D+1<=12) (ih:GoodC D):GoodC (D+1):=by
 intro w ok d t v g r hv hok hr h0 h1
 obtain⟨a7,a8,c7,c8,rfl⟩:=hv.shape
 have HV:=hidI hv
 have IH:=hidI ih
 have HOK:=hidI hok
 have hgl:=hr.lt
 have hr2:RoomIs (w.alloc (.cells #[.int .i64 t.kind,.int .i64 t.n,.string ⟨t.s.toArray⟩,.slice a7 t.keys.length c7,.slice a8 t.l.length c8] 25)) g r:=((World.grownBy_alloc w _ none).block g hgl (by simp)).trans hr
 obtain⟨c0,f0⟩:=hr2.c
 have HR2:=hidI hr2
 have d0:((D:Int)+1 == 0)=false:=by rw[beq_eq_false_iff_ne];omega
 have HR:=hidI hr
 have c9:∀ o,((w.setCell ⟨g,0,none⟩ (.int .i64 (r - 1))).alloc o).cell? ⟨g,0,none⟩=some (.int .i64 (r - 1)):=fun o=>(roomset hr (r - 1) o).c.1
 have hne:g≠w.heap.size:=by omega
 clear hr hv hr2 ih hok
 by_cases hr0:r - 1 < 0
 ·have F:Hid (goodS (D+1) t r=(false,r - 1)):=hidI (by simp[goodS,hr0])
  have hr9:r - 1 < 0:=hr0
  go_enter Tryz.func36,Tryz.ntmps36
  go_wp2_with fail
  go_ret
  rw[F.out]
  exact⟨rfl,roomset HR.out _ _,gb_alloc (gb_set (gb_refl _ _) _ _) _⟩
 ·have hr9:¬(r - 1 < 0):=hr0
  have W1:Hid (RoomIs ((w.setCell ⟨g,0,none⟩ (.int .i64 (r - 1))).alloc (.cells #[.int .i64 t.kind,.int .i64 t.n,.string ⟨t.s.toArray⟩,.slice a7 t.keys.length c7,.slice a8 t.l.length c8] 25)) g (r - 1)/\BoxIs ((w.setCell ⟨g,0,none⟩ (.int .i64 (r - 1))).alloc (.cells #[.int .i64 t.kind,.int .i64 t.n,.string ⟨t.s.toArray⟩,.slice a7 t.keys.length c7,.slice a8 t.l.length c8] 25)) w.heap.size (.int .i64 t.kind) (.int .i64 t.n) (.string ⟨t.s.toArray⟩) (.slice a7 t.keys.length c7) (.slice a8 t.l.length c8) /\
   VIs ((w.setCell ⟨g,0,none⟩ (.int .i64 (r - 1))).alloc (.cells #[.int .i64 t.kind,.int .i64 t.n,.string ⟨t.s.toArray⟩,.slice a7 t.keys.length c7,.slice a8 t.l.length c8] 25)) ok d t (.agg #[.int .i64 t.kind,.int .i64 t.n,.string ⟨t.s.toArray⟩,.slice a7 t.keys.length c7,.slice a8 t.l.length c8])/\w.grownBy ((w.setCell ⟨g,0,none⟩ (.int .i64 (r - 1))).alloc (.cells #[.int .i64 t.kind,.int .i64 t.n,.string ⟨t.s.toArray⟩,.slice a7 t.keys.length c7,.slice a8 t.l.length c8] 25)) (some g)):=by
   have hsz:(w.setCell ⟨g,0,none⟩ (.int .i64 (r - 1))).heap.size=w.heap.size:=by simp[World.setCell]
   have ga:w.grownBy ((w.setCell ⟨g,0,none⟩ (.int .i64 (r - 1))).alloc (.cells #[.int .i64 t.kind,.int .i64 t.n,.string ⟨t.s.toArray⟩,.slice a7 t.keys.length c7,.slice a8 t.l.length c8] 25)) (some g):=gb_alloc (gb_set (gb_refl _ _) _ _) _
   refine⟨roomset HR.out _ _,?_,HV.out.grown ga (fun k hk e=>by cases e;exact HOK.out _ hk rfl),ga⟩
   have:=heap_alloc_new (w.setCell ⟨g,0,none⟩ (.int .i64 (r - 1))) (.cells #[.int .i64 t.kind,.int .i64 t.n,.string ⟨t.s.toArray⟩,.slice a7 t.keys.length c7,.slice a8 t.l.length c8] 25)
   rw[hsz]at this
   exact this
  obtain⟨w1,hw1⟩:∃ w1,w1=(w.setCell ⟨g,0,none⟩ (.int .i64 (r - 1))).alloc (.cells #[.int .i64 t.kind,.int .i64 t.n,.string ⟨t.s.toArray⟩,.slice a7 t.keys.length c7,.slice a8 t.l.length c8] 25):=⟨_,rfl⟩
  cases hsh:shapedB t with
  | false=>
   have F:Hid (goodS (D+1) t r=(false,r - 1)):=hidI (by simp[goodS,hsh])
   have HSH:=hidI hsh
   clear hsh
   go_enter Tryz.func36,Tryz.ntmps36
   go_wp2_with fail
   rw[<-hw1]at W1 ⊢
   refine(shaped_at _ ok d t _ (by exact W1.out.2.2.1)).mono ?_
   rintro e w2 ⟨rfl,hb2⟩
   rw[HSH.out]
   have G2:Hid (RoomIs w2 g (r - 1)/\w.grownBy w2 (some g)):=⟨(hb2.block g W1.out.1.lt).trans W1.out.1,gb_trans W1.out.2.2.2 (gb_below hb2)⟩
   clear hb2 hw1
   go_wp2_with fail
   go_ret
   rw[F.out]
   exact⟨rfl,G2.out⟩
  | true=>
   have F:Hid (goodS (D+1) t r=gfold D t.l (r - 1)):=hidI (by simp[goodS,hsh,hr0,gfold])
   have HSH:=hidI hsh
   clear hsh
   go_enter Tryz.func36,Tryz.ntmps36
   go_wp2_with fail
   rw[<-hw1]at W1 ⊢
   refine(shaped_at _ ok d t _ (by exact W1.out.2.2.1)).mono ?_
   rintro e w2 ⟨rfl,hb2⟩
   rw[HSH.out]
   have G2:Hid (RoomIs w2 g (r - 1)/\w.grownBy w2 (some g)/\VIs w2 ok d t (.agg #[.int .i64 t.kind,.int .i64 t.n,.string ⟨t.s.toArray⟩,.slice a7 t.keys.length c7,.slice a8 t.l.length c8])):=⟨(hb2.block g W1.out.1.lt).trans W1.out.1,gb_trans W1.out.2.2.2 (gb_below hb2),W1.out.2.2.1.bel hb2⟩
   have q4:=(box_bel hb2 W1.out.2.1).c.2.2.2.2.1
   obtain⟨rc,rf⟩:=G2.out.1.c
   have l2:t.l.length<=maxLen:=by
    have hv:=HV.out
    match d,hv with
    | d+1,hv=>obtain⟨ks,ls,e,h1,h2,h3,h4,h5⟩:=hv;exact h5.1
   unfold maxLen at l2
   clear hb2 hw1 c0 f0
   go_wp2_with fail
   go_loopg [30] t.l.length (fun gk i wr=>∃ (k:Nat) (p:Int),k<=t.l.length/\gk=t.l.length - k/\i=.int .i64 k/\gfold D (t.l.take k) (r - 1)=(true,p)/\0<=p/\p<=120/\RoomIs wr g p/\w.grownBy wr (some g)/\VIs wr ok d t (.agg #[.int .i64 t.kind,.int .i64 t.n,.string ⟨t.s.toArray⟩,.slice a7 t.keys.length c7,.slice a8 t.l.length c8]))
   case atStart=>exact⟨0,r - 1,Nat.zero_le _,rfl,rfl,rfl,by omega,by omega,G2.out⟩
   case round=>
    obtain⟨k,p,hk,hgk,rfl,hf,hp0,hp1,hrm,hg,hvr⟩:=hrel
    have A:Hid (gk=t.l.length - k/\gfold D (t.l.take k) (r - 1)=(true,p)/\RoomIs wr g p/\w.grownBy wr (some g)/\VIs wr ok d t (.agg #[.int .i64 t.kind,.int .i64 t.n,.string ⟨t.s.toArray⟩,.slice a7 t.keys.length c7,.slice a8 t.l.length c8])):=⟨hgk,hf,hrm,hg,hvr⟩
    clear hgk hf hrm hg rc rf q4
    by_cases hlt:k < t.l.length
    ·match d,hvr with
     | d+1,hvr=>
      obtain⟨ks,ls,e,-,-,-,-,h5⟩:=hvr
      simp only[Value.agg.injEq,Array.mk.injEq,List.cons.injEq,and_true]at e
      obtain⟨-,-,-,-,rfl⟩:=e
      obtain⟨_,h5⟩:=h5
      rcases h5 with⟨e,_⟩ | ⟨b,off,c,hls,hc1,hc2,hcs⟩
      ·rw[e]at hlt;simp at hlt
      simp only[Value.slice.injEq]at hls
      obtain⟨rfl,-,rfl⟩:=hls
      obtain⟨v0,v1,v2,v3,v4,g',g0,g1,g2,g3,g4,g5⟩:=hcs k t.l[k] (List.getElem?_eq_getElem hlt)
      have G5:=hidI g5
      obtain⟨rfl,rfl,rfl,⟨a5,c5,rfl⟩,⟨a6,c6,rfl⟩⟩:=g5.agg
      clear hcs g5
      unfold maxLen at hc2
      go_wp2_with fail
      refine(IH.out _ ok d t.l[k] _ g p (by exact G5.out.bel (bel_alloc _ _)) HOK.out (by exact((World.grownBy_alloc wr _ none).block g A.out.2.2.1.lt (by simp)).trans A.out.2.2.1) hp0 hp1).mono ?_
      rintro e w3 ⟨rfl,hr3,hg3⟩
      have hst:=gfold_step (List.getElem?_eq_getElem hlt) A.out.2.1
      have hrm:=goodS_room D t.l[k] p hp0
      have gg:wr.grownBy w3 (some g):=gb_trans (World.grownBy_alloc wr _ _) hg3
      have C:Hid (gfold D (t.l.take (k+1)) (r - 1)=goodS D t.l[k] p/\RoomIs w3 g (goodS D t.l[k] p).2/\wr.grownBy w3 (some g)):=⟨hst,hr3,gg⟩
      clear hst hr3 hg3 gg
      cases hb:(goodS D t.l[k] p).1 with
      | true=>
       have HB:=hidI hb
       have HRM:=hidI hrm
       clear hb hrm
       go_wp2_with fail
       go_roundg (t.l.length - (k+1))
       case measure=>rw[A.out.1];omega
       case rel=>
        obtain⟨q1,q2,q3⟩:=HRM.out
        refine⟨k+1,(goodS D t.l[k] p).2,by omega,rfl,by go_num,by rw[C.out.1,<-HB.out],q3 HB.out,by omega,C.out.2.1,gb_trans A.out.2.2.2.1 C.out.2.2,?_⟩
        exact A.out.2.2.2.2.grown C.out.2.2 (fun j hj e=>by cases e;exact HOK.out _ hj rfl)
      | false=>
       have HB:=hidI hb
       clear hb hrm
       go_wp2_with fail
       go_ret
       have e9:goodS D t.l[k] p=(false,(goodS D t.l[k] p).2):=by rw[<-HB.out]
       have e8:gfold D t.l (r - 1)=goodS D t.l[k] p:=by
        have:=C.out.1
        rw[e9]at this
        rw[e9,gfold_false this]
       rw[F.out,e8,HB.out]
       exact⟨rfl,C.out.2.1,gb_trans A.out.2.2.2.1 C.out.2.2⟩
    ·have hke:k=t.l.length:=by omega
     clear hvr
     go_wp2_with fail
     go_ret
     have hf:=A.out.2.1
     rw[hke,List.take_length]at hf
     rw[F.out,hf]
     exact⟨rfl,A.out.2.2.1,A.out.2.2.2.1⟩
theorem good_all (D:Nat):D<=12->GoodC D:=by
 induction D with
 | zero=>intro _;exact good_zero
 | succ D ih=>intro h;exact good_succ D h (ih (by omega))
set_option maxRecDepth 100000 in
set_option maxHeartbeats 4000000 in
theorem Good_at (w:World) (ok:Nat->Prop) (d:Nat) (t:V) (v:Value) (h:VIs w ok d t v) :
 Calls Tryz.prog 13 #[v] w fun e w'=>e=.returned (.bool (goodV t))/\Below w.heap.size w w':=by
 obtain⟨a7,a8,c7,c8,rfl⟩:=h.shape
 have HV:=hidI h
 clear h
 go_enter Tryz.func13,Tryz.ntmps13
 go_wp2_with fail
 refine(good_all 12 (by omega) _ (fun k=>ok k/\k < w.heap.size) d t _ (w.heap.size+1) 120 (by exact HV.out.below.bel (bel_trans (bel_alloc _ _) (bel_alloc _ _))) (by intro k hk;omega) (by exact h2b w _ _) (by omega) (by omega)).mono ?_
 rintro e w2 ⟨rfl,hr2,hg2⟩
 go_wp2_with fail
 go_ret
 exact⟨rfl,gb_none (gb_out (gb_alloc (gb_alloc (gb_refl _ _) _) _) hg2 (by omega))⟩
end Go.Proofs.YtmdemcjmcnfjmaaGreatDoor
namespace Go.Proofs.YtmdemcjmcnfjmaaGreatDoor
open Go.RowKit
theorem own_base {w:World} {base base':Nat} {e:TypeId} {size:Nat} {v:Value} {n:Nat} {xs:List Value} (h:w.ownsRow base e size v n xs) (hb:base'<=base):w.ownsRow base' e size v n xs:=by
 refine⟨h.1,?_⟩
 rcases h.2 with h | ⟨g,cap,cur,e1,h1,h2⟩
 ·exact .inl h
 ·exact .inr ⟨g,cap,cur,e1,Nat.le_trans hb h1,h2⟩
theorem h3a (w:World) (o1 o2 o3:Obj):(((w.alloc o1).alloc o2).alloc o3).heap[w.heap.size]?=some o1:=by
 have:=World.grownBy_alloc ((w.alloc o1).alloc o2) o3 none
 rw[this.block _ (by simp;omega) (by simp)];exact h2a w o1 o2
theorem h3b (w:World) (o1 o2 o3:Obj):(((w.alloc o1).alloc o2).alloc o3).heap[w.heap.size+1]?=some o2:=by
 have:=World.grownBy_alloc ((w.alloc o1).alloc o2) o3 none
 rw[this.block _ (by simp) (by simp)];exact h2b w o1 o2
theorem h3c (w:World) (o1 o2 o3:Obj):(((w.alloc o1).alloc o2).alloc o3).heap[w.heap.size+2]?=some o3:=by
 have:=heap_alloc_new ((w.alloc o1).alloc o2) o3
 simpa using this
theorem one5 (k n:Int) (s:ByteArray) (a1 a2:Option Addr) (l1 c1 l2 c2:Nat):∀ u∈[Value.int .i64 k,.int .i64 n,.string s,.slice a1 l1 c1,.slice a2 l2 c2],u.oneCell'=true:=by
 intro u hu
 simp only[List.mem_cons,List.not_mem_nil,or_false]at hu
 rcases hu with rfl | rfl | rfl | rfl | rfl <;> rfl
theorem gb_setA {a w:World} {r:Option Nat} {g:Nat} (h:a.grownBy w r) (hg:a.heap.size<=g) (i:Nat) (v:Value):a.grownBy (w.setCell ⟨g,i,none⟩ v) r:=by
 have k:w.grownBy (w.setCell ⟨g,i,none⟩ v) (some g):=gb_set (gb_refl _ _) _ _
 exact⟨k.os.trans h.os,k.tape.trans h.tape,k.output.trans h.output,Nat.le_trans h.size k.size,fun j hj hr=>(k.block j (Nat.lt_of_lt_of_le hj h.size) (fun e=>by cases e;omega)).trans (h.block j hj hr)⟩
theorem own_kept' {w w':World} {B b:Nat} {e:TypeId} {size:Nat} {v:Value} {n:Nat} {xs:List Value} (h:w.ownsRow B e size v n xs) (hg:w.grownBy w' (some b)) (hb:b < B):w'.ownsRow B e size v n xs:=by
 refine h.kept hg ?_
 cases hv:v.ownBlock with
 | none=>exact .inl rfl
 | some k=>
  right
  intro e
  cases e
  have:=(h.lt b hv).1
  omega
def okN (ok:Nat->Prop) (B:Nat):Nat->Prop:=fun k=>ok k\/B<=k
theorem VIs.toN {w:World} {ok:Nat->Prop} {d B:Nat} {t:V} {v:Value} (h:VIs w ok d t v):VIs w (okN ok B) d t v:=h.weak fun k hk=>.inl hk
theorem RowV.bel {w w':World} {ok:Nat->Prop} {d B:Nat} {xs:List V} {cs:List Value} (h:RowV (VIs w ok d) xs cs) (hb:Below w.heap.size w w'):RowV (VIs w' (okN ok B) d) xs cs:=h.imp fun _ _ h=>(h.bel hb).toN
end Go.Proofs.YtmdemcjmcnfjmaaGreatDoor
namespace Go.Proofs.YtmdemcjmcnfjmaaGreatDoor
open Go.RowKit
def insV (key:List UInt8) (keys:List (List UInt8)):Nat:=(keys.takeWhile fun a=>Op.bytesLess a key).length
def withV (t:V) (key:List UInt8) (x:V):V:=
 if pairedV t then
  match idxL key t.keys with
  | some i=>{ t with l:=t.l.take i++x :: t.l.drop (i+1) }
  | none=>{ t with keys:=t.keys.take (insV key t.keys)++key :: t.keys.drop (insV key t.keys),l:=t.l.take (insV key t.keys)++x :: t.l.drop (insV key t.keys) }
 else t
def withoutV (t:V) (key:List UInt8):V:=
 match findV t key with
 | some i=>{ t with keys:=t.keys.take i++t.keys.drop (i+1),l:=t.l.take i++t.l.drop (i+1) }
 | none=>t
end Go.Proofs.YtmdemcjmcnfjmaaGreatDoor
namespace Go.Proofs.YtmdemcjmcnfjmaaGreatDoor
open Go.RowKit
theorem goodS_succ {D:Nat} {t:V} {r p:Int} (h:goodS D t r=(true,p)):∃ D',D=D'+1/\shapedB t=true/\0<=r - 1/\gfold D' t.l (r - 1)=(true,p):=by
 cases D with
 | zero=>simp[goodS]at h
 | succ D=>
  simp only[goodS]at h
  split at h
  ·cases h
  ·rename_i hc
   rw[not_or]at hc
   exact⟨D,rfl,by simpa using hc.2,by omega,h⟩
theorem gfold_cons {D:Nat} {x:V} {l:List V} {r p:Int} (h:gfold D (x :: l) r=(true,p)):∃ q,goodS D x r=(true,q)/\gfold D l q=(true,p):=by
 unfold gfold at h
 rw[List.foldl_cons]at h
 simp only[if_true]at h
 cases hb:(goodS D x r).1 with
 | true=>
  have e:goodS D x r=(true,(goodS D x r).2):=by rw[<-hb]
  rw[e]at h
  exact⟨_,e,h⟩
 | false=>
  have e:goodS D x r=(false,(goodS D x r).2):=by rw[<-hb]
  rw[e,foldl_false]at h
  cases h
def GoodT:Nat->V->Prop
 | 0,_=>False
 | d+1,t=>shapedB t=true/\∀ x∈t.l,GoodT d x
theorem goodS_tree (D:Nat):∀ (t:V) (r p:Int),goodS D t r=(true,p)->GoodT D t:=by
 induction D with
 | zero=>intro t r p h;simp[goodS]at h
 | succ D ih=>
  intro t r p h
  obtain⟨D',e,hs,h0,hf⟩:=goodS_succ h
  cases e
  refine⟨hs,?_⟩
  generalize t.l=l at hf
  generalize r - 1=q at hf
  induction l generalizing q with
  | nil=>intro x hx;cases hx
  | cons y l ihl=>
   obtain⟨q2,h1,h2⟩:=gfold_cons hf
   intro x hx
   rcases List.mem_cons.1 hx with rfl | hx
   ·exact ih _ _ _ h1
   ·exact ihl q2 h2 x hx
theorem goodV_tree {t:V} (h:goodV t=true):GoodT 12 t:=goodS_tree 12 t 120 _ (by unfold goodV at h;rw[<-h])
theorem less_irrefl (a:List UInt8):Op.bytesLess a a=false:=by
 induction a with
 | nil=>rfl
 | cons c a ih=>simp[Op.bytesLess,ih]
theorem less_trans:∀ (a b c:List UInt8),Op.bytesLess a b=true->Op.bytesLess b c=true->Op.bytesLess a c=true
 | _,_,[],_,h=>by simp[Op.bytesLess]at h
 | [],_,_ :: _,_,_=>by simp[Op.bytesLess]
 | _ :: _,[],_ :: _,h,_=>by simp[Op.bytesLess]at h
 | x :: a,y :: b,z :: c,h1,h2=>by
  simp only[Op.bytesLess,Bool.or_eq_true,Bool.and_eq_true,decide_eq_true_eq,beq_iff_eq]at h1 h2 ⊢
  rcases h1 with h1 | ⟨rfl,h1⟩
  ·rcases h2 with h2 | ⟨rfl,h2⟩
   ·exact .inl (by rw[UInt8.lt_iff_toNat_lt]at *;omega)
   ·exact .inl h1
  ·rcases h2 with h2 | ⟨rfl,h2⟩
   ·exact .inl h2
   ·exact .inr ⟨rfl,less_trans a b c h1 h2⟩
def Rises (ks:List (List UInt8)):Prop:=ks.Pairwise fun a b=>Op.bytesLess a b=true
theorem rise_pair (ks:List (List UInt8)):∀ (p:Option (List UInt8)),riseFrom p ks=true->(∀ a∈p,∀ k∈ks,Op.bytesLess a k=true)/\Rises ks/\∀ k∈ks,plainB k=true:=by
 induction ks with
 | nil=>intro p _;exact⟨fun _ _ _ h=>by (cases h),List.Pairwise.nil,fun _ h=>by cases h⟩
 | cons k ks ih=>
  intro p h
  simp only[riseFrom,Bool.and_eq_true]at h
  obtain⟨⟨h1,h2⟩,h3⟩:=h
  obtain⟨g1,g2,g3⟩:=ih _ h3
  refine⟨?_,List.Pairwise.cons (fun a ha=>g1 k rfl a ha) g2,fun a ha=>?_⟩
  ·intro a ha x hx
   simp only[Option.mem_def]at ha
   subst ha
   rcases List.mem_cons.1 hx with rfl | hx
   ·exact h2
   ·exact less_trans _ _ _ h2 (g1 k rfl x hx)
  ·rcases List.mem_cons.1 ha with rfl | ha
   ·exact h1
   ·exact g3 a ha
theorem less_ne {a b:List UInt8} (h:Op.bytesLess a b=true):a≠b:=by
 rintro rfl;rw[less_irrefl]at h;cases h
end Go.Proofs.YtmdemcjmcnfjmaaGreatDoor
namespace Go.Proofs.YtmdemcjmcnfjmaaGreatDoor
open Go.RowKit
def look (k:List UInt8):List (List UInt8 × V)->Option V
 | []=>none
 | p :: ps=>if p.1=k then some p.2 else look k ps
theorem look_append (k:List UInt8) (a b:List (List UInt8 × V)):look k (a++b)=(look k a).or (look k b):=by
 induction a with
 | nil=>rfl
 | cons p a ih=>
  rw[List.cons_append,look,look]
  split
  ·rfl
  ·exact ih
theorem look_none {k:List UInt8} {ps:List (List UInt8 × V)} (h:∀ p∈ps,p.1≠k):look k ps=none:=by
 induction ps with
 | nil=>rfl
 | cons p ps ih=>rw[look,if_neg (h p (by simp)),ih fun q hq=>h q (by simp[hq])]
theorem idx_look (k:List UInt8):∀ (ks:List (List UInt8)) (l:List V),ks.length=l.length->((idxL k ks).bind fun i=>l[i]?)=look k (ks.zip l)
 | [],l,_=>rfl
 | a :: ks,[],h=>by simp at h
 | a :: ks,x :: l,h=>by
  rw[idxL,List.zip_cons_cons,look]
  by_cases e:a=k
  ·rw[if_pos e,if_pos e];rfl
  ·rw[if_neg e,if_neg e,<-idx_look k ks l (by simpa using h)]
   cases idxL k ks <;> simp
theorem memV_look {t:V} (h:pairedV t=true) (k:List UInt8):memV t k=look k (t.keys.zip t.l):=by
 have hl:t.keys.length=t.l.length:=by
  simp only[pairedV,Bool.and_eq_true,decide_eq_true_eq]at h;exact h.2
 rw[memV,findV,if_pos h,idx_look k _ _ hl]
theorem zip_split (ks:List (List UInt8)) (l:List V) (i:Nat) (h:ks.length=l.length):ks.zip l=(ks.take i).zip (l.take i)++(ks.drop i).zip (l.drop i):=by
 rw[<-List.zip_append (by simp[h]),List.take_append_drop,List.take_append_drop]
theorem zip_put (ks:List (List UInt8)) (l:List V) (i j:Nat) (k:List UInt8) (x:V) (h:ks.length=l.length) :
 (ks.take i++k :: ks.drop j).zip (l.take i++x :: l.drop j)=(ks.take i).zip (l.take i)++(k,x) :: (ks.drop j).zip (l.drop j):=by
 rw[List.zip_append (by simp[h]),List.zip_cons_cons]
theorem look_zip_none {k:List UInt8} {ks:List (List UInt8)} {l:List V} (h:k ∉ ks):look k (ks.zip l)=none:=
 look_none fun p hp e=>h (by rw[<-e];exact(List.of_mem_zip hp).1)
theorem rises_nodup {ks:List (List UInt8)} (h:Rises ks):ks.Nodup:=List.Pairwise.imp (fun h=>less_ne h) h
theorem idxL_not {k:List UInt8} {ks:List (List UInt8)} (h:idxL k ks=none):k ∉ ks:=by
 induction ks with
 | nil=>simp
 | cons a ks ih=>
  rw[idxL]at h
  split at h
  ·cases h
  ·rename_i hne
   simp only[Option.map_eq_none_iff]at h
   simp only[List.mem_cons,not_or]
   exact⟨fun e=>hne e.symm,ih h⟩
theorem drop_at {ks:List (List UInt8)} {i:Nat} {k:List UInt8} (h:ks[i]?=some k):ks.drop i=k :: ks.drop (i+1):=by
 obtain⟨h1,h2⟩:=List.getElem?_eq_some_iff.1 h
 rw[List.drop_eq_getElem_cons h1,h2]
theorem split_at {ks:List (List UInt8)} {i:Nat} {k:List UInt8} (h:ks[i]?=some k):ks=ks.take i++k :: ks.drop (i+1):=by
 rw[<-drop_at h,List.take_append_drop]
theorem with_paired {t:V} (h:pairedV t=true) (key:List UInt8) (x:V):pairedV (withV t key x)=true:=by
 have hl:t.keys.length=t.l.length:=by
  simp only[pairedV,Bool.and_eq_true,decide_eq_true_eq]at h;exact h.2
 have hk:t.kind=5:=by
  simp only[pairedV,Bool.and_eq_true,decide_eq_true_eq]at h;exact h.1
 unfold withV
 rw[if_pos h]
 cases hi:idxL key t.keys with
 | some i=>
  have:=(idxL_lt hi).1
  simp only[pairedV,hk,decide_true,Bool.true_and,decide_eq_true_eq,List.length_append,List.length_take,List.length_cons,List.length_drop]
  omega
 | none=>
  simp only[pairedV,hk,decide_true,Bool.true_and,decide_eq_true_eq,List.length_append,List.length_take,List.length_cons,List.length_drop]
  omega
theorem mem_with {t:V} (h:pairedV t=true) (key:List UInt8) (x:V):memV (withV t key x) key=some x:=by
 have hl:t.keys.length=t.l.length:=by
  simp only[pairedV,Bool.and_eq_true,decide_eq_true_eq]at h;exact h.2
 rw[memV_look (with_paired h key x)]
 unfold withV
 rw[if_pos h]
 cases hi:idxL key t.keys with
 | some i=>
  obtain⟨h1,h2⟩:=idxL_lt hi
  simp only
  have e:(t.keys.zip (t.l.take i++x :: t.l.drop (i+1)))=(t.keys.take i++key :: t.keys.drop (i+1)).zip (t.l.take i++x :: t.l.drop (i+1)):=by rw[<-split_at h2]
  rw[e,zip_put _ _ _ _ _ _ hl,look_append]
  have:look key ((t.keys.take i).zip (t.l.take i))=none:=by
   have hm:(idxL key (t.keys.take i))=none:=by
    cases hq:idxL key (t.keys.take i) with
    | none=>rfl
    | some j=>
     exfalso
     obtain⟨g1,g2⟩:=idxL_lt hq
     have:idxL key t.keys=some j:=by
      have e2:∀ (a b:List (List UInt8)) (j:Nat),idxL key a=some j->idxL key (a++b)=some j:=by
       intro a
       induction a with
       | nil=>intro b j h;cases h
       | cons c a ih=>
        intro b j h
        rw[idxL]at h
        rw[List.cons_append,idxL]
        split at h
        ·rename_i hc;rw[if_pos hc];exact h
        ·rename_i hc
         rw[if_neg hc]
         simp only[Option.map_eq_some_iff]at h ⊢
         obtain⟨m,hm,rfl⟩:=h
         exact⟨m,ih b m hm,rfl⟩
      have:=e2 (t.keys.take i) (t.keys.drop i) j hq
      rwa [List.take_append_drop]at this
     rw[hi]at this
     cases this
     simp at g1
     omega
   exact look_zip_none (idxL_not hm)
  rw[this,look,if_pos rfl];rfl
 | none=>
  simp only
  rw[zip_put _ _ _ _ _ _ hl,look_append]
  have hn:=idxL_not hi
  rw[look_zip_none (fun hm=>hn (List.mem_of_mem_take hm)),look,if_pos rfl];rfl
theorem mem_other {t:V} (h:pairedV t=true) (key other:List UInt8) (x:V) (hne:other≠key):memV (withV t key x) other=memV t other:=by
 have hl:t.keys.length=t.l.length:=by
  simp only[pairedV,Bool.and_eq_true,decide_eq_true_eq]at h;exact h.2
 rw[memV_look (with_paired h key x),memV_look h]
 unfold withV
 rw[if_pos h]
 cases hi:idxL key t.keys with
 | some i=>
  obtain⟨h1,h2⟩:=idxL_lt hi
  simp only
  have e:(t.keys.zip (t.l.take i++x :: t.l.drop (i+1)))=(t.keys.take i++key :: t.keys.drop (i+1)).zip (t.l.take i++x :: t.l.drop (i+1)):=by rw[<-split_at h2]
  rw[e,zip_put _ _ _ _ _ _ hl,look_append,look,if_neg (fun e=>hne e.symm),zip_split t.keys t.l i hl,look_append]
  congr 1
  have hli:i < t.l.length:=by omega
  rw[drop_at h2,List.drop_eq_getElem_cons hli,List.zip_cons_cons,look,if_neg (fun e=>hne e.symm)]
 | none=>
  simp only
  rw[zip_put _ _ _ _ _ _ hl,look_append,look,if_neg (fun e=>hne e.symm),zip_split t.keys t.l (insV key t.keys) hl,look_append]
end Go.Proofs.YtmdemcjmcnfjmaaGreatDoor
namespace Go.Proofs.YtmdemcjmcnfjmaaGreatDoor
open Go.RowKit
def numF:Nat->List UInt8->Option Nat
 | a,[]=>some a
 | a,c :: r=>if 48<=c.toNat/\c.toNat<=57 then numF (a * 10+(c.toNat - 48)) r else none
def numP (s:List UInt8):Option Nat:=
 if s=[]\/4 < s.length\/(s.head?=some 48/\s≠[48]) then none else numF 0 s
def placeP (n:Nat) (s:List UInt8):Option Nat:=
 if s=[45] then some n else (numP s).bind fun i=>if i<=n then some i else none
def meantV (t:V) (s:List UInt8):Option V:=if t.kind=4 then (placeP t.l.length s).bind fun i=>t.l[i]? else memV t s
def addedV (x:V) (t:V) (s:List UInt8):Option V:=
 if t.kind=5 then some (withV t s x) else if t.kind=4 then (placeP t.l.length s).map fun i=>{ t with l:=t.l.take i++x :: t.l.drop i } else none
def replacedV (x:V) (t:V) (s:List UInt8):Option V:=
 (meantV t s).bind fun _=>if t.kind=5 then some (withV t s x) else (placeP t.l.length s).map fun i=>{ t with l:=t.l.take i++x :: t.l.drop (i+1) }
def downV (how:V->List UInt8->Option V):List (List UInt8)->V->Option V
 | [],_=>none
 | [s],t=>how t s
 | s :: r :: rs,t=>(meantV t s).bind fun y=>(downV how (r :: rs) y).bind fun y'=>replacedV y' t s
def getV:List (List UInt8)->V->Option V
 | [],t=>some t
 | s :: r,t=>(meantV t s).bind (getV r)
theorem place_le {n:Nat} {s:List UInt8} {i:Nat} (h:placeP n s=some i):i<=n:=by
 unfold placeP at h
 split at h
 ·cases h;omega
 ·rw[Option.bind_eq_some_iff]at h
  obtain⟨j,-,h⟩:=h
  split at h
  ·cases h;assumption
  ·cases h
theorem meant_mem {t y:V} {s:List UInt8} (h:meantV t s=some y):y∈t.l:=by
 unfold meantV at h
 split at h
 ·rw[Option.bind_eq_some_iff]at h
  obtain⟨i,-,h⟩:=h
  exact List.mem_of_getElem? h
 ·unfold memV at h
  rw[Option.bind_eq_some_iff]at h
  obtain⟨i,-,h⟩:=h
  exact List.mem_of_getElem? h
theorem meant_kind {t y:V} {s:List UInt8} (h:meantV t s=some y):(t.kind=5/\pairedV t=true/\memV t s=some y)\/(t.kind=4/\∃ i,placeP t.l.length s=some i/\i < t.l.length/\t.l[i]?=some y):=by
 unfold meantV at h
 split at h
 ·rename_i hk
  rw[Option.bind_eq_some_iff]at h
  obtain⟨i,h1,h⟩:=h
  exact .inr ⟨hk,i,h1,(List.getElem?_eq_some_iff.1 h).1,h⟩
 ·refine .inl ?_
  have h0:=h
  unfold memV at h
  rw[Option.bind_eq_some_iff]at h
  obtain⟨i,h1,h⟩:=h
  obtain⟨f1,-⟩:=findV_some h1
  have f2:=f1
  simp only[pairedV,Bool.and_eq_true,decide_eq_true_eq]at f2
  exact⟨f2.1,f1,h0⟩
theorem V_eta (t:V):(⟨t.kind,t.n,t.s,t.keys,t.l⟩:V)=t:=by cases t;rfl
def szD:Nat->V->Nat
 | 0,_=>0
 | D+1,t=>1+(t.l.map (szD D)).sum
theorem good_sz (D:Nat):∀ (t:V) (r p:Int),0<=r->(goodS D t r=(true,p)↔GoodT D t/\(szD D t:Int)<=r/\p=r - szD D t):=by
 induction D with
 | zero=>intro t r p _;simp[goodS,GoodT]
 | succ D ih=>
  have hf:∀ (l:List V) (r p:Int),0<=r->(gfold D l r=(true,p)↔(∀ x∈l,GoodT D x)/\(((l.map (szD D)).sum:Nat):Int)<=r/\p=r - ((l.map (szD D)).sum:Nat)):=by
   intro l
   induction l with
   | nil=>intro r p h;simp[gfold];omega
   | cons y l ihl=>
    intro r p h
    constructor
    ·intro hg
     obtain⟨q,h1,h2⟩:=gfold_cons hg
     obtain⟨a1,a2,a3⟩:=(ih y r q h).1 h1
     obtain⟨b1,b2,b3⟩:=(ihl q p (by omega)).1 h2
     refine⟨?_,?_,?_⟩
     ·intro x hx
      rcases List.mem_cons.1 hx with rfl | hx
      ·exact a1
      ·exact b1 x hx
     ·simp only[List.map_cons,List.sum_cons];omega
     ·simp only[List.map_cons,List.sum_cons];omega
    ·rintro⟨h1,h2,h3⟩
     simp only[List.map_cons,List.sum_cons]at h2 h3
     have e1:=(ih y r (r - szD D y) h).2 ⟨h1 y (by simp),by omega,rfl⟩
     have e2:=(ihl (r - szD D y) p (by omega)).2 ⟨fun x hx=>h1 x (by simp[hx]),by omega,by omega⟩
     unfold gfold at e2 ⊢
     rw[List.foldl_cons]
     simp only[if_true]
     rw[e1];exact e2
  intro t r p h
  constructor
  ·intro hg
   obtain⟨D',e,hs,h0,hg⟩:=goodS_succ hg
   cases e
   obtain⟨b1,b2,b3⟩:=(hf t.l (r - 1) p h0).1 hg
   refine⟨⟨hs,b1⟩,?_,?_⟩
   ·simp only[szD];omega
   ·simp only[szD];omega
  ·rintro⟨⟨h1,h2⟩,h3,h4⟩
   simp only[szD]at h3 h4
   have e:=(hf t.l (r - 1) p (by omega)).2 ⟨h2,by omega,by omega⟩
   simp only[goodS]
   rw[if_neg (by rw[h1];simp;omega)]
   exact e
theorem good_iff (t:V):goodV t=true↔GoodT 12 t/\szD 12 t<=120:=by
 unfold goodV
 constructor
 ·intro h
  obtain⟨a,b,-⟩:=(good_sz 12 t 120 _ (by omega)).1 (show goodS 12 t 120=(true,(goodS 12 t 120).2) by rw[<-h])
  exact⟨a,by omega⟩
 ·rintro⟨a,b⟩
  have:=(good_sz 12 t 120 (120 - szD 12 t) (by omega)).2 ⟨a,by omega,rfl⟩
  rw[this]
theorem sum_mem {f:V->Nat} {l:List V} {x:V} (h:x∈l):f x<=(l.map f).sum:=by
 induction l with
 | nil=>cases h
 | cons y l ih=>
  simp only[List.map_cons,List.sum_cons]
  rcases List.mem_cons.1 h with rfl | h
  ·omega
  ·have:=ih h;omega
theorem sz_len (D:Nat) (t:V) (h:GoodT (D+1) t):t.l.length<=szD (D+1) t:=by
 simp only[szD]
 obtain⟨-,h⟩:=h
 generalize t.l=l at h
 induction l with
 | nil=>simp
 | cons y l ih=>
  have h1:=ih fun x hx=>h x (by simp[hx])
  simp only[List.map_cons,List.sum_cons,List.length_cons]
  have:1<=szD D y:=by
   have:=h y (by simp)
   cases D with
   | zero=>exact this.elim
   | succ D=>simp only[szD];omega
  omega
def Nice (t:V):Prop:=∃ D,GoodT D t/\szD D t<=120
theorem nice_of {t:V} (h:goodV t=true):Nice t:=⟨12,(good_iff t).1 h⟩
theorem nice_len {t:V} (h:Nice t):t.l.length<=120:=by
 obtain⟨D,h1,h2⟩:=h
 cases D with
 | zero=>exact h1.elim
 | succ D=>have:=sz_len D t h1;omega
theorem nice_shaped {t:V} (h:Nice t):shapedB t=true:=by
 obtain⟨D,h1,h2⟩:=h
 cases D with
 | zero=>exact h1.elim
 | succ D=>exact h1.1
theorem nice_mem {t x:V} (h:Nice t) (hx:x∈t.l):Nice x:=by
 obtain⟨D,h1,h2⟩:=h
 cases D with
 | zero=>exact h1.elim
 | succ D=>
  refine⟨D,h1.2 x hx,?_⟩
  have:=sum_mem (f:=szD D) hx
  simp only[szD]at h2;omega
theorem nice_meant {t y:V} {s:List UInt8} (h:Nice t) (hm:meantV t s=some y):Nice y:=nice_mem h (meant_mem hm)
theorem shaped_object {t:V} (hs:shapedB t=true) (hk:t.kind=5):pairedV t=true/\riseFrom none t.keys=true/\t.n=0/\t.s=[]:=by
 unfold shapedB at hs
 rw[hk]at hs
 simp only[Int.reduceEq,if_false,if_true,Bool.and_eq_true,decide_eq_true_eq]at hs
 obtain⟨⟨⟨a1,a2⟩,a3⟩,a4⟩:=hs
 exact⟨by simp[pairedV,hk,a3],a4,a1,a2⟩
theorem nice_paired {t:V} (h:Nice t) (hk:t.kind=5):pairedV t=true:=(shaped_object (nice_shaped h) hk).1
theorem rise_of {ks:List (List UInt8)}:∀ (p:Option (List UInt8)),(∀ a∈p,∀ k∈ks,Op.bytesLess a k=true)->Rises ks->(∀ k∈ks,plainB k=true)->riseFrom p ks=true:=by
 induction ks with
 | nil=>intros;rfl
 | cons k ks ih=>
  intro p h1 h2 h3
  obtain⟨h4,h5⟩:=List.pairwise_cons.1 h2
  have e1:=ih (some k) (fun a ha j hj=>by cases ha;exact h4 j hj) h5 fun j hj=>h3 j (by simp[hj])
  have e2:=h3 k (by simp)
  cases p with
  | none=>simp[riseFrom,e1,e2]
  | some a=>simp[riseFrom,e1,e2,h1 a rfl k (by simp)]
theorem out_sub {α:Type} (l:List α) (i:Nat):(l.take i++l.drop (i+1)).Sublist l:=by
 have:l=l.take i++l.drop i:=(List.take_append_drop i l).symm
 conv=>rhs;rw[this]
 exact List.Sublist.append (List.Sublist.refl _) (by
  rw[<-List.drop_drop];exact List.drop_sublist _ _)
def zeroT:V:=⟨0,0,[],[],[]⟩
def getR (sp:List (List UInt8) × Int) (v:V):V × Int:=
 if sp.2≠0 then (zeroT,sp.2) else if goodV v=false then (zeroT,1) else match getV sp.1 v with | some y=>(y,0) | none=>(zeroT,3)
def changeR (how:V->List UInt8->Option V) (sp:List (List UInt8) × Int) (v:V):V × Int:=
 if sp.2≠0 then (v,sp.2) else if sp.1=[]\/goodV v=false then (v,1) else match downV how sp.1 v with | none=>(v,3) | some w=>if goodV w then (w,0) else (v,2)
def layR (how:V->V->List UInt8->Option V) (p:List UInt8) (sp:List (List UInt8) × Int) (v x:V):V × Int:=
 if goodV x=false then (v,1) else if p=[]/\goodV v=true then (x,0) else changeR (how x) sp v
theorem get_ok {sp:List (List UInt8) × Int} {v y:V} (h0:sp.2=0) (hg:goodV v=true) (hy:getV sp.1 v=some y):getR sp v=(y,0):=by
 unfold getR
 rw[if_neg (by simp[h0]),if_neg (by simp[hg]),hy]
end Go.Proofs.YtmdemcjmcnfjmaaGreatDoor
namespace Go.Proofs.YtmdemcjmcnfjmaaGreatDoor
open Go.RowKit
def allS (f:V->V->Bool):List V->List V->Bool
 | x :: l,y :: m=>f x y&&allS f l m
 | _,_=>true
theorem allS_iff {f:V->V->Bool}:∀ (l m:List V),allS f l m=true↔∀ (j:Nat) (x y:V),l[j]?=some x->m[j]?=some y->f x y=true
 | [],m=>by simp[allS]
 | x :: l,[]=>by simp[allS]
 | x :: l,y :: m=>by
  rw[allS,Bool.and_eq_true,allS_iff l m]
  constructor
  ·rintro⟨h1,h2⟩ j x' y' hx hy
   cases j with
   | zero=>simp at hx hy;subst hx;subst hy;exact h1
   | succ j=>exact h2 j x' y' (by simpa using hx) (by simpa using hy)
  ·intro h
   exact⟨h 0 x y rfl rfl,fun j x' y' hx hy=>h (j+1) x' y' (by simpa using hx) (by simpa using hy)⟩
def sameS:Nat->V->V->Bool
 | 0,_,_=>false
 | d+1,a,b=>decide (a.kind=b.kind)&&decide (a.n=b.n)&&decide (a.s=b.s)&&decide (a.keys=b.keys)&&decide (a.l.length=b.l.length)&&allS (sameS d) a.l b.l
def SameI (w wr:World) (ok ok':Nat->Prop) (d:Nat) (a b:V) (k n:Int) (s:List UInt8) (nk nl:Nat) (a1 a2 b1 b2:Option Addr) (c1 c2 d1 d2:Nat):Prop:=
 BoxIs wr w.heap.size (.int .i64 k) (.int .i64 n) (.string ⟨s.toArray⟩) (.slice a1 nk c1) (.slice a2 nl c2) /\
 BoxIs wr (w.heap.size+1) (.int .i64 k) (.int .i64 n) (.string ⟨s.toArray⟩) (.slice b1 nk d1) (.slice b2 nl d2) /\
 VIs wr ok d a (.agg #[.int .i64 k,.int .i64 n,.string ⟨s.toArray⟩,.slice a1 nk c1,.slice a2 nl c2]) /\
 VIs wr ok' d b (.agg #[.int .i64 k,.int .i64 n,.string ⟨s.toArray⟩,.slice b1 nk d1,.slice b2 nl d2])/\Below w.heap.size w wr
theorem SameI.below {w wr w':World} {ok ok':Nat->Prop} {d:Nat} {a b:V} {k n:Int} {s:List UInt8} {nk nl:Nat} {a1 a2 b1 b2:Option Addr} {c1 c2 d1 d2:Nat} (h:SameI w wr ok ok' d a b k n s nk nl a1 a2 b1 b2 c1 c2 d1 d2) (hb:Below wr.heap.size wr w'):SameI w w' ok ok' d a b k n s nk nl a1 a2 b1 b2 c1 c2 d1 d2:=
 ⟨box_bel hb h.1,box_bel hb h.2.1,h.2.2.1.bel hb,h.2.2.2.1.bel hb,bel_trans h.2.2.2.2 hb⟩
theorem SameI.drewN {w wr:World} {ok ok':Nat->Prop} {d:Nat} {a b:V} {k n:Int} {s:List UInt8} {nk nl:Nat} {a1 a2 b1 b2:Option Addr} {c1 c2 d1 d2:Nat} (h:SameI w wr ok ok' d a b k n s nk nl a1 a2 b1 b2 c1 c2 d1 d2) (m:Nat):SameI w (wr.drewN m) ok ok' d a b k n s nk nl a1 a2 b1 b2 c1 c2 d1 d2:=
 h.below ⟨rfl,rfl,rfl,Nat.le_refl _,fun _ _=>rfl⟩
theorem strs_at {w:World} {ok:Nat->Prop} {xs:List (List UInt8)} {a:Option Addr} {n c k:Nat} (h:StrsAre w ok xs (.slice a n c)) (hk:k < xs.length):∃ b off,a=some ⟨b,off,none⟩/\xs.length<=c/\c<=maxLen/\w.cell? ⟨b,off+k,none⟩=some (.string ⟨xs[k].toArray⟩):=by
 rcases h.2 with⟨e,_⟩ | ⟨b,off,c',e,h1,h2,hcs⟩
 ·rw[e]at hk;simp at hk
 ·simp only[Value.slice.injEq]at e
  obtain⟨rfl,-,rfl⟩:=e
  exact⟨b,off,rfl,h1,h2,(hcs k xs[k] (List.getElem?_eq_getElem hk)).2.2⟩
theorem vals_at {w:World} {ok:Nat->Prop} {d:Nat} {xs:List V} {a:Option Addr} {n c k:Nat} (h:ValsAre w ok (VIs w ok d) xs (.slice a n c)) (hk:k < xs.length):∃ b off,a=some ⟨b,off,none⟩/\xs.length<=c/\c<=maxLen /\
 ∃ a5 c5 a6 c6,w.cell? ⟨b,off+k * 5,none⟩=some (.int .i64 xs[k].kind)/\w.cell? ⟨b,off+k * 5+1,none⟩=some (.int .i64 xs[k].n)/\w.cell? ⟨b,off+k * 5+2,none⟩=some (.string ⟨xs[k].s.toArray⟩) /\
  w.cell? ⟨b,off+k * 5+3,none⟩=some (.slice a5 xs[k].keys.length c5)/\w.cell? ⟨b,off+k * 5+4,none⟩=some (.slice a6 xs[k].l.length c6) /\
  VIs w ok d xs[k] (.agg #[.int .i64 xs[k].kind,.int .i64 xs[k].n,.string ⟨xs[k].s.toArray⟩,.slice a5 xs[k].keys.length c5,.slice a6 xs[k].l.length c6]):=by
 rcases h.2 with⟨e,_⟩ | ⟨b,off,c',e,h1,h2,hcs⟩
 ·rw[e]at hk;simp at hk
 ·simp only[Value.slice.injEq]at e
  obtain⟨rfl,-,rfl⟩:=e
  obtain⟨v0,v1,v2,v3,v4,-,g0,g1,g2,g3,g4,g5⟩:=hcs k xs[k] (List.getElem?_eq_getElem hk)
  have g6:=g5
  obtain⟨rfl,rfl,rfl,⟨a5,c5,rfl⟩,⟨a6,c6,rfl⟩⟩:=g6.agg
  exact⟨b,off,rfl,h1,h2,a5,c5,a6,c6,g0,g1,g2,g3,g4,g5⟩
theorem allS_refl {f:V->V->Bool}:∀ (l:List V),(∀ x∈l,f x x=true)->allS f l l=true
 | [],_=>rfl
 | x :: l,h=>by rw[allS,h x (by simp),allS_refl l fun y hy=>h y (by simp[hy])];rfl
theorem vals_mem {w:World} {ok:Nat->Prop} {R:V->Value->Prop} {xs:List V} {v:Value} (h:ValsAre w ok R xs v) {x:V} (hx:x∈xs):∃ y,R x y:=by
 rcases h.2 with⟨e,_⟩ | ⟨b,off,c,e,h1,h2,h3⟩
 ·rw[e]at hx;cases hx
 ·obtain⟨i,hi⟩:=List.getElem?_of_mem hx
  obtain⟨v0,v1,v2,v3,v4,-,-,-,-,-,-,g⟩:=h3 i x hi
  exact⟨_,g⟩
theorem sameS_refl {w:World} {ok:Nat->Prop} (d:Nat):∀ {t:V} {v:Value},VIs w ok d t v->sameS d t t=true:=by
 induction d with
 | zero=>intro t v h;exact h.elim
 | succ d ih=>
  intro t v h
  obtain⟨ks,ls,e,h1,h2,h3,h4,h5⟩:=h
  have:=allS_refl (f:=sameS d) t.l fun x hx=>by obtain⟨y,hy⟩:=vals_mem h5 hx;exact ih hy
  simp[sameS,this]
theorem ba_app (a b:List UInt8):ByteArray.mk a.toArray++ByteArray.mk b.toArray=ByteArray.mk (a++b).toArray:=by
 apply ByteArray.ext;simp
end Go.Proofs.YtmdemcjmcnfjmaaGreatDoor
namespace Go.Proofs.YtmdemcjmcnfjmaaGreatDoor
open Go.RowKit
def In (w:World) (ok:Nat->Prop) (t:V) (v:Value):Prop:=∃ d,VIs w ok d t v
theorem VIs.is {w:World} {ok:Nat->Prop} {d:Nat} {t:V} {v:Value} (h:VIs w ok d t v):In w ok t v:=⟨d,h⟩
theorem In.bel {w w':World} {ok:Nat->Prop} {t:V} {v:Value} (h:In w ok t v) (hb:Below w.heap.size w w'):In w' ok t v:=by
 obtain⟨d,h⟩:=h;exact⟨d,h.bel hb⟩
theorem In.weak {w:World} {ok ok':Nat->Prop} {t:V} {v:Value} (h:In w ok t v) (hk:∀ k,ok k->ok' k):In w ok' t v:=by
 obtain⟨d,h⟩:=h;exact⟨d,h.weak hk⟩
theorem In.grown {w w':World} {ok:Nat->Prop} {g:Nat} {t:V} {v:Value} (h:In w ok t v) (hg:w.grownBy w' (some g)) (hr:∀ k,ok k->k≠g):In w' ok t v:=by
 obtain⟨d,h⟩:=h;exact⟨d,h.grown hg fun k hk e=>hr k hk (by cases e;rfl)⟩
theorem In.at {w:World} {ok:Nat->Prop} {t:V} {v:Value} (h:In w ok t v):∃ d,VIs w ok (d+1) t v:=by
 obtain⟨d,h⟩:=h;exact⟨d,h.succ⟩
theorem In.two {w:World} {ok:Nat->Prop} {t x:V} {v xv:Value} (h:In w ok t v) (hx:In w ok x xv):∃ d,VIs w ok (d+1) t v/\VIs w ok d x xv:=by
 obtain⟨d,h⟩:=h
 obtain⟨d',h'⟩:=hx
 exact⟨d+d',VIs.le (by omega) h,VIs.le (by omega) h'⟩
theorem In.form {w:World} {ok:Nat->Prop} {t:V} {v:Value} (h:In w ok t v):∃ (a7 a8:Option Addr) (c7 c8:Nat),v=.agg #[.int .i64 t.kind,.int .i64 t.n,.string ⟨t.s.toArray⟩,.slice a7 t.keys.length c7,.slice a8 t.l.length c8]:=by
 obtain⟨d,h⟩:=h;exact h.shape
theorem In.lens {w:World} {ok:Nat->Prop} {t:V} {v:Value} (h:In w ok t v):t.keys.length<=9223372036854775807/\t.l.length<=9223372036854775807/\t.s.length<=9223372036854775807:=by
 obtain⟨d,h⟩:=h.at
 obtain⟨ks,ls,-,-,-,h3,h4,h5⟩:=h
 exact⟨h4.1,h5.1,h3⟩
def lowN (ok:Nat->Prop) (B C:Nat):Nat->Prop:=okN (fun k=>ok k/\k < B) C
theorem In.low {w:World} {ok:Nat->Prop} {t:V} {v:Value} (h:In w ok t v):In w (fun k=>ok k/\k < w.heap.size) t v:=by
 obtain⟨d,h⟩:=h;exact⟨d,h.below⟩
theorem lowN_ne {ok:Nat->Prop} {B C g:Nat} (h1:B<=g) (h2:g < C):∀ k,lowN ok B C k->k≠g:=by
 intro k hk e
 rcases hk with hk | hk <;> omega
theorem lowN_out {ok:Nat->Prop} {B C:Nat} (h:B<=C):∀ k,lowN ok B C k->okN ok B k:=by
 intro k hk
 rcases hk with hk | hk
 ·exact .inl hk.1
 ·exact .inr (by omega)
theorem lowN_low {ok:Nat->Prop} {B C:Nat}:∀ k,(ok k/\k < B)->lowN ok B C k:=fun _ h=>.inl h
theorem low_out {ok:Nat->Prop} {B:Nat}:∀ k,(ok k/\k < B)->okN ok B k:=fun _ h=>.inl h.1
theorem In.box {w:World} {ok:Nat->Prop} {B C g:Nat} {t:V} {v:Value} (h:In w (lowN ok B C) t v) (h1:B<=g) (h2:g < C) (d0 d1 d2 d3 d4:Value):In (set5 w g d0 d1 d2 d3 d4) (lowN ok B C) t v:=
 h.grown (set5_gb w g _ _ _ _ _) (lowN_ne h1 h2)
theorem bel_set5 {w w1:World} {g:Nat} (h:Below w.heap.size w w1) (hg:w.heap.size<=g) (d0 d1 d2 d3 d4:Value):Below w.heap.size w (set5 w1 g d0 d1 d2 d3 d4):=gb_none (gb_set5 (gb_below h) hg _ _ _ _ _)
theorem In.item {w:World} {ok:Nat->Prop} {t:V} {k n s ks:Value} {a:Option Addr} {m c i:Nat} (h:In w ok t (.agg #[k,n,s,ks,.slice a m c])) (hi:i < t.l.length) :
 ∃ b off a5 c5 a6 c6,a=some ⟨b,off,none⟩/\t.l.length<=c/\c<=9223372036854775807/\w.cell? ⟨b,off+i * 5,none⟩=some (.int .i64 t.l[i].kind)/\w.cell? ⟨b,off+i * 5+1,none⟩=some (.int .i64 t.l[i].n)/\w.cell? ⟨b,off+i * 5+2,none⟩=some (.string ⟨t.l[i].s.toArray⟩) /\
  w.cell? ⟨b,off+i * 5+3,none⟩=some (.slice a5 t.l[i].keys.length c5)/\w.cell? ⟨b,off+i * 5+4,none⟩=some (.slice a6 t.l[i].l.length c6)/\In w ok t.l[i] (.agg #[.int .i64 t.l[i].kind,.int .i64 t.l[i].n,.string ⟨t.l[i].s.toArray⟩,.slice a5 t.l[i].keys.length c5,.slice a6 t.l[i].l.length c6]):=by
 obtain⟨d,h⟩:=h.at
 obtain⟨ks',ls,e,-,-,-,-,h5⟩:=h
 simp only[Value.agg.injEq,Array.mk.injEq,List.cons.injEq,and_true]at e
 obtain⟨-,-,-,-,rfl⟩:=e
 obtain⟨-,h5⟩:=h5
 rcases h5 with⟨e,_⟩ | ⟨b,off,c',e,h1,h2,hcs⟩
 ·rw[e]at hi;simp at hi
 ·simp only[Value.slice.injEq]at e
  obtain⟨rfl,-,rfl⟩:=e
  obtain⟨v0,v1,v2,v3,v4,-,g0,g1,g2,g3,g4,g5⟩:=hcs i t.l[i] (List.getElem?_eq_getElem hi)
  obtain⟨rfl,rfl,rfl,⟨a5,c5,rfl⟩,⟨a6,c6,rfl⟩⟩:=g5.agg
  exact⟨b,off,a5,c5,a6,c6,rfl,h1,h2,g0,g1,g2,g3,g4,g5.is⟩
def OptIn (w:World) (ok:Nat->Prop) (m:Option V) (x:Value) (b:Bool):Prop:=b=m.isSome/\∃ y,In w ok y x/\∀ z,m=some z->y=z
theorem OptIn.some {w:World} {ok:Nat->Prop} {y:V} {x:Value} (h:In w ok y x):OptIn w ok (some y) x true:=⟨rfl,y,h,fun z e=>by cases e;rfl⟩
theorem OptIn.none {w:World} {ok:Nat->Prop} {y:V} {x:Value} (h:In w ok y x):OptIn w ok none x false:=⟨rfl,y,h,fun z e=>by cases e⟩
theorem in_zero (w:World) (ok:Nat->Prop):In w ok zeroT (.agg #[.int .i64 0,.int .i64 0,.string ⟨#[]⟩,.slice none 0 0,.slice none 0 0]):=⟨1,_,_,rfl,by unfold I64;simp[zeroT],by unfold I64;simp[zeroT],by simp[zeroT,maxLen],⟨by simp[zeroT,maxLen],.inl ⟨rfl,none,rfl⟩⟩,⟨by simp[zeroT,maxLen],.inl ⟨rfl,none,rfl⟩⟩⟩
theorem good_is (w:World) (ok:Nat->Prop) (t:V) (v:Value) (h:In w ok t v):Calls Tryz.prog 13 #[v] w fun e w'=>e=.returned (.bool (goodV t))/\Below w.heap.size w w':=by
 obtain⟨d,h⟩:=h;exact Good_at w ok d t v h
theorem member_is (w:World) (ok:Nat->Prop) (t:V) (v:Value) (key:List UInt8) (h:In w ok t v) :
 Calls Tryz.prog 38 #[v,str key] w fun e w'=>∃ x b,e=.returned (.tuple #[x,.bool b])/\Below w.heap.size w w'/\OptIn w' ok (memV t key) x b:=by
 obtain⟨d,h⟩:=h
 refine(member_at w ok d t v key h).mono ?_
 rintro e w' ⟨x,b,rfl,hb,hm⟩
 refine⟨x,b,rfl,hb,?_⟩
 cases hq:memV t key with
 | none=>rw[hq]at hm;rw[hm.1,hm.2];exact OptIn.none (in_zero w' ok)
 | some y=>rw[hq]at hm;rw[hm.1];exact OptIn.some hm.2.is
theorem in_leaf (w:World) (ok:Nat->Prop) (k n:Int) (hk:I64 k) (hn:I64 n):In w ok ⟨k,n,[],[],[]⟩ (.agg #[.int .i64 k,.int .i64 n,.string ⟨#[]⟩,.slice none 0 0,.slice none 0 0]):=⟨1,_,_,rfl,hk,hn,by simp[maxLen],⟨by simp[maxLen],.inl ⟨rfl,none,rfl⟩⟩,⟨by simp[maxLen],.inl ⟨rfl,none,rfl⟩⟩⟩
theorem In.key {w:World} {ok:Nat->Prop} {t:V} {k n s ls:Value} {a:Option Addr} {m c i:Nat} (h:In w ok t (.agg #[k,n,s,.slice a m c,ls])) (hi:i < t.keys.length) :
 ∃ b off,a=some ⟨b,off,none⟩/\t.keys.length<=c/\c<=9223372036854775807/\w.cell? ⟨b,off+i,none⟩=some (.string ⟨t.keys[i].toArray⟩)/\t.keys[i].length<=9223372036854775807:=by
 obtain⟨d,h⟩:=h.at
 obtain⟨ks',ls',e,-,-,-,h4,-⟩:=h
 simp only[Value.agg.injEq,Array.mk.injEq,List.cons.injEq,and_true]at e
 obtain⟨-,-,-,rfl,-⟩:=e
 obtain⟨-,h4⟩:=h4
 rcases h4 with⟨e,_⟩ | ⟨b,off,c',e,h1,h2,hcs⟩
 ·rw[e]at hi;simp at hi
 ·simp only[Value.slice.injEq]at e
  obtain⟨rfl,-,rfl⟩:=e
  obtain⟨g1,-,g3⟩:=hcs i t.keys[i] (List.getElem?_eq_getElem hi)
  exact⟨b,off,rfl,h1,h2,g3,g1⟩
theorem member_was (w:World) (ok:Nat->Prop) (t:V) (v:Value) (key:List UInt8) (h:In w ok t v) :
 Calls Tryz.prog 38 #[v,str key] w fun e w'=>∃ x,e=.returned (.tuple #[x,.bool (memV t key).isSome])/\Below w.heap.size w w'/\In w' ok ((memV t key).getD zeroT) x:=by
 obtain⟨d,h⟩:=h
 refine(member_at w ok d t v key h).mono ?_
 rintro e w' ⟨x,b,rfl,hb,hm⟩
 cases hq:memV t key with
 | none=>rw[hq]at hm;rw[hm.1,hm.2];exact⟨_,rfl,hb,in_zero w' ok⟩
 | some y=>rw[hq]at hm;rw[hm.1];exact⟨_,rfl,hb,hm.2.is⟩
end Go.Proofs.YtmdemcjmcnfjmaaGreatDoor
namespace Go.Proofs.YtmdemcjmcnfjmaaGreatDoor
open Go.RowKit
def cnt:V->Nat
 | ⟨_,_,_,_,l⟩=>1+(l.map cnt).sum
def cnts (xs:List V):Nat:=(xs.map cnt).sum
theorem cnts_nil:cnts []=0:=rfl
theorem cnts_cons (x:V) (xs:List V):cnts (x :: xs)=cnt x+cnts xs:=by simp[cnts]
theorem cnt_eq (t:V):cnt t=1+cnts t.l:=by cases t;rw[cnt];rfl
theorem cnts_drop {xs:List V} {k:Nat} (h:k < xs.length):cnts (xs.drop k)=cnt xs[k]+cnts (xs.drop (k+1)):=by
 rw[List.drop_eq_getElem_cons h,cnts_cons]
theorem cnts_len:∀ (xs:List V),xs.length<=cnts xs
 | []=>Nat.le_refl _
 | x :: xs=>by
  have:=cnts_len xs
  have:=cnt_eq x
  rw[cnts_cons,List.length_cons];omega
theorem cnts_mem {xs:List V} {x:V} (h:x∈xs):cnt x<=cnts xs:=by
 induction xs with
 | nil=>cases h
 | cons y xs ih=>
  rw[cnts_cons]
  rcases List.mem_cons.1 h with rfl | h
  ·omega
  ·have:=ih h;omega
theorem cnt_sz (D:Nat):∀ (t:V),GoodT D t->cnt t=szD D t:=by
 induction D with
 | zero=>intro t h;exact h.elim
 | succ D ih=>
  intro t h
  rw[cnt_eq,szD]
  congr 1
  obtain⟨-,h⟩:=h
  generalize t.l=l at h
  induction l with
  | nil=>rfl
  | cons y l ihl=>
   rw[cnts_cons,ih y (h y (by simp)),ihl fun x hx=>h x (by simp[hx])];simp
theorem nice_cnt {t:V} (h:Nice t):cnt t<=120:=by
 obtain⟨D,h1,h2⟩:=h
 rw[cnt_sz D t h1];exact h2
def mu (ls:List (List V)):Nat:=(ls.map fun l=>1+cnts l).sum
theorem mu_push (ls:List (List V)) (l:List V):mu (ls++[l])=mu ls+(1+cnts l):=by simp[mu]
theorem mu_len (ls:List (List V)):ls.length<=mu ls:=by
 unfold mu
 induction ls with
 | nil=>simp
 | cons l ls ih=>simp only[List.map_cons,List.sum_cons,List.length_cons];omega
def ValsIn (w:World) (ok:Nat->Prop) (xs:List V) (v:Value):Prop:=In w ok ⟨0,0,[],[],xs⟩ (.agg #[.int .i64 0,.int .i64 0,.string ⟨#[]⟩,.slice none 0 0,v])
theorem ValsIn.bel {w w':World} {ok:Nat->Prop} {xs:List V} {v:Value} (h:ValsIn w ok xs v) (hb:Below w.heap.size w w'):ValsIn w' ok xs v:=In.bel h hb
theorem ValsIn.grown {w w':World} {ok:Nat->Prop} {g:Nat} {xs:List V} {v:Value} (h:ValsIn w ok xs v) (hg:w.grownBy w' (some g)) (hr:∀ k,ok k->k≠g):ValsIn w' ok xs v:=In.grown h hg hr
theorem ValsIn.form {w:World} {ok:Nat->Prop} {xs:List V} {v:Value} (h:ValsIn w ok xs v):∃ a c,v=.slice a xs.length c:=by
 obtain⟨a7,a8,c7,c8,e⟩:=In.form h
 simp only[Value.agg.injEq,Array.mk.injEq,List.cons.injEq,and_true]at e
 exact⟨a8,c8,e.2.2.2.2⟩
theorem ValsIn.len {w:World} {ok:Nat->Prop} {xs:List V} {v:Value} (h:ValsIn w ok xs v):xs.length<=9223372036854775807:=(In.lens h).2.1
theorem In.vals {w:World} {ok:Nat->Prop} {t:V} {k n s ks ls:Value} (h:In w ok t (.agg #[k,n,s,ks,ls])):ValsIn w ok t.l ls:=by
 obtain⟨d,h⟩:=h.at
 obtain⟨ks',ls',e,-,-,-,-,h5⟩:=h
 simp only[Value.agg.injEq,Array.mk.injEq,List.cons.injEq,and_true]at e
 obtain⟨-,-,-,-,rfl⟩:=e
 exact⟨d+1,_,_,rfl,by unfold I64;simp,by unfold I64;simp,by simp[maxLen],⟨by simp[maxLen],.inl ⟨rfl,none,rfl⟩⟩,h5⟩
theorem ValsIn.item {w:World} {ok:Nat->Prop} {xs:List V} {a:Option Addr} {m c i:Nat} (h:ValsIn w ok xs (.slice a m c)) (hi:i < xs.length) :
 ∃ b off a5 c5 a6 c6,a=some ⟨b,off,none⟩/\xs.length<=c/\c<=9223372036854775807/\w.cell? ⟨b,off+i * 5,none⟩=some (.int .i64 xs[i].kind)/\w.cell? ⟨b,off+i * 5+1,none⟩=some (.int .i64 xs[i].n)/\w.cell? ⟨b,off+i * 5+2,none⟩=some (.string ⟨xs[i].s.toArray⟩) /\
  w.cell? ⟨b,off+i * 5+3,none⟩=some (.slice a5 xs[i].keys.length c5)/\w.cell? ⟨b,off+i * 5+4,none⟩=some (.slice a6 xs[i].l.length c6)/\In w ok xs[i] (.agg #[.int .i64 xs[i].kind,.int .i64 xs[i].n,.string ⟨xs[i].s.toArray⟩,.slice a5 xs[i].keys.length c5,.slice a6 xs[i].l.length c6]):=
 In.item h hi
theorem ValsIn.blk {w:World} {ok:Nat->Prop} {xs:List V} {b off m c i:Nat} (h:ValsIn w ok xs (.slice (some ⟨b,off,none⟩) m c)) (hi:i < xs.length):ok b:=by
 obtain⟨d,h⟩:=In.at h
 obtain⟨ks',ls,e,-,-,-,-,h5⟩:=h
 simp only[Value.agg.injEq,Array.mk.injEq,List.cons.injEq,and_true]at e
 obtain⟨-,-,-,-,rfl⟩:=e
 obtain⟨-,h5⟩:=h5
 rcases h5 with⟨e,_⟩ | ⟨b',off',c',e,h1,h2,hcs⟩
 ·simp only at e;rw[e]at hi;simp at hi
 ·simp only[Value.slice.injEq,Option.some.injEq,Addr.mk.injEq]at e
  obtain⟨⟨rfl,-,-⟩,-,-⟩:=e
  obtain⟨_,_,_,_,_,g,_⟩:=hcs i xs[i] (List.getElem?_eq_getElem hi)
  exact g
theorem vals_one {w:World} {ok:Nat->Prop} {t:V} {g:Nat} {c0 c1 c2 c3 c4:Value} (h:In w ok t (.agg #[c0,c1,c2,c3,c4])) (hb:BoxIs w g c0 c1 c2 c3 c4) (hok:ok g):ValsIn w ok [t] (.slice (some ⟨g,0,none⟩) 1 1):=by
 obtain⟨d,h⟩:=h
 obtain⟨b0,b1,b2,b3,b4,-⟩:=hb.c
 refine⟨d+1,_,_,rfl,by unfold I64;simp,by unfold I64;simp,by simp[maxLen],⟨by simp[maxLen],.inl ⟨rfl,none,rfl⟩⟩,by simp[maxLen],.inr ⟨g,0,1,rfl,by simp,by simp[maxLen],?_⟩⟩
 intro i x hx
 cases i with
 | zero=>
  simp only[List.getElem?_cons_zero,Option.some.injEq]at hx
  subst hx
  exact⟨c0,c1,c2,c3,c4,hok,by simpa using b0,by simpa using b1,by simpa using b2,by simpa using b3,by simpa using b4,h⟩
 | succ i=>simp at hx
end Go.Proofs.YtmdemcjmcnfjmaaGreatDoor
namespace Go.Proofs.YtmdemcjmcnfjmaaGreatDoor
open Go.RowKit
attribute [local go_sem ↓] Go.wp_at_zero Go.wp_at_succ
def siz:V->Nat
 | ⟨_,_,_,ks,l⟩=>1+ks.length+(l.map siz).sum
def sizs (xs:List V):Nat:=(xs.map siz).sum
theorem sizs_cons (x:V) (xs:List V):sizs (x :: xs)=siz x+sizs xs:=by simp[sizs]
theorem siz_eq (t:V):siz t=1+t.keys.length+sizs t.l:=by cases t;rw[siz];rfl
end Go.Proofs.YtmdemcjmcnfjmaaGreatDoor
