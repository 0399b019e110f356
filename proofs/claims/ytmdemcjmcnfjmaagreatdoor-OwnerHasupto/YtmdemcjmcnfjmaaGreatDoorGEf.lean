/- How many paths there are behind an Apply. -/
import Derived.Test.YtmdemcjmcnfjmaaGreatDoorGXn
import Derived.Test.YtmdemcjmcnfjmaaGreatDoorGOi
import Derived.Test.YtmdemcjmcnfjmaaGreatDoorGRg
set_option linter.unusedSimpArgs false
set_option linter.unusedVariables false
namespace Go.Proofs.YtmdemcjmcnfjmaaGreatDoor
open Go.RowKit
theorem sameTexts_yes (w:World) (ok ok':Nat->Prop) (xs:List (List UInt8)) (v u:Value) (h:StrsAre w ok xs v) (h':StrsAre w ok' xs u) :
 Calls Tryz.prog 9 #[v,u] w fun e w'=>e=.returned (.bool true)/\Below w.heap.size w w':=
 (sameTexts_at w ok ok' xs xs v u h h').mono fun e w' h=>⟨by rw[h.1,decide_eq_true rfl],h.2⟩
attribute [local go_sem ↓] Go.wp_at_zero Go.wp_at_succ
end Go.Proofs.YtmdemcjmcnfjmaaGreatDoor
namespace Go.Proofs.YtmdemcjmcnfjmaaGreatDoor
open Go.RowKit
theorem allOf_append (a b:List Own):allOf (a++b)=allOf a++allOf b:=by simp[allOf]
theorem allOf_kept (stays:List UInt8->List UInt8->Bool) (l:List Own):(allOf (keptF stays l)).length<=(allOf l).length:=by
 induction l with
 | nil=>simp[keptF,allOf]
 | cons o r ih=>
  have e:keptF stays (o :: r)=keptF stays [o]++keptF stays r:=kept_append stays [o] r
  have h1:(allOf (keptF stays [o])).length<=o.paths.length:=by
   simp only[keptF,List.map_cons,List.map_nil,List.filter_cons,List.filter_nil]
   split
   ·simp[allOf,List.length_filter_le]
   ·simp[allOf]
  have h2:allOf (o :: r)=o.paths.map (fun p=>(o.name,p))++allOf r:=by simp[allOf]
  rw[e,allOf_append,h2,List.length_append,List.length_append,List.length_map]
  omega
theorem allOf_with (l:List Own) (o:Own):(allOf (withOwnF l o)).length<=(allOf l).length+o.paths.length:=by
 unfold withOwnF
 split
 ·omega
 ·have h2:∀ r,allOf (o :: r)=o.paths.map (fun p=>(o.name,p))++allOf r:=fun r=>by simp[allOf]
  have h3:(allOf l).length=(allOf (l.take (placeO l o.name))).length+(allOf (l.drop (placeO l o.name))).length:=by
   rw[<-List.length_append,<-allOf_append,List.take_append_drop]
  rw[allOf_append,h2,List.length_append,List.length_append,List.length_map]
  omega
theorem apply_size {v:V} {l:List Own} {who:List UInt8} {want:V} {force:Bool} {w:V} {m:List Own} {c:List (List UInt8 × List UInt8)} (h:applyF v l who want force=(w,m,c,0)) (hN:(allOf l).length<=2000000) :
 (allOf m).length<=4000000/\(∀ o∈m,∀ x∈o.paths,x.length<=140737488351232)/\who.length<=12/\∀ p∈leavesF want,p.length<=140737488351232:=by
 obtain⟨A,hw,hm,-,-,-,-⟩:=apply_ok h
 obtain⟨gm,-,-⟩:=apply_good h
 have O:=applyOk who A.vk A.vg A.wk A.wg A.lg
 have h1:=allOf_with (othersF v want l who) ⟨who,leavesF want⟩
 have h2:=allOf_kept (fun n p=>n != who&&!blockedF want v (leavesF want) p) l
 have h3:=O.lvn
 refine⟨?_,fun o ho x hx=>?_,named_len A.whog,fun p hp=>(O.lv p hp).1⟩
 ·rw[hm]
  unfold othersF at h1 ⊢
  simp only at h1
  omega
 ·obtain⟨-,g2,-⟩:=good_own gm
  exact(gp_len ((gps_parts (g2 o ho).2).2.1 x hx)).1
end Go.Proofs.YtmdemcjmcnfjmaaGreatDoor
