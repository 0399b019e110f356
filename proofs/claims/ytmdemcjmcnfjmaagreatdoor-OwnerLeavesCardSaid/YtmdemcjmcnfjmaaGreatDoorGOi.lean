/- What Good of package owner does. -/
import Derived.Deep.RegionHeld3
import Derived.Test.YtmdemcjmcnfjmaaGreatDoorGOq
import Derived.Shelf.Strings.BuilderK
import Derived.Test.YtmdemcjmcnfjmaaGreatDoorGShp
import Derived.Test.YtmdemcjmcnfjmaaGreatDoorGOt
import Derived.Test.YtmdemcjmcnfjmaaGreatDoorGOc
import Derived.Shelf.SlSortCmp.NoneTotal
import Derived.Test.YtmdemcjmcnfjmaaGreatDoorGFc
import Derived.Test.YtmdemcjmcnfjmaaGreatDoorGRe
import Derived.Shelf.SlSortCmp.QuietGrown
set_option linter.unusedSimpArgs false
set_option linter.unusedVariables false
namespace Go.Proofs.YtmdemcjmcnfjmaaGreatDoor
open Go
section
variable {P:Program} {ops:Array Oper} {Q:Exit->Act->World->Prop} {md:Region.Mode} {S:World->Prop} {T:List Nat}
def untilB (T:List Nat) (listed:Array Bool):Bool:=T.all fun t=>listed.getD t true == false
def wpAnyT (P:Program) (md:Region.Mode) (ops:Array Oper) (Q:Exit->Act->World->Prop) (S:World->Prop) (T:List Nat):Nat->Array Bool->Act->World->Prop
 | 0,listed,a,w=>Region.ready md ops listed=[]/\Q .normal a w
 | fuel+1,listed,a,w=>
  (Region.ready md ops listed=[]->Q .normal a w) /\
  ∀ i∈Region.ready md ops listed,wpOp P ops Q i (fun a' w'=>(untilB T (listed.setIfInBounds i true)=true->S w')/\wpAnyT P md ops Q S T fuel (listed.setIfInBounds i true) a' w') a w
theorem wpAny_of_T:∀ (fuel:Nat) (listed:Array Bool) (a:Act) (w:World),wpAnyT P md ops Q S T fuel listed a w->wpAny P md ops Q fuel listed a w
 | 0,_,_,_,h=>h
 | fuel+1,_,_,_,h=>⟨h.1,fun i hi=>wpOp_mono (fun a' w' h'=>wpAny_of_T fuel _ a' w' h'.2) (h.2 i hi)⟩
def behindB (md:Region.Mode) (ops:Array Oper) (listed:Array Bool) (i:Nat) (T D:List Nat):Bool:=
 (D.all fun d=>(match ops[d]? with | some o=>o.after.any fun e=>Region.binds md e&&(e.on == i || D.contains e.on) | none=>false)&&listed.getD d true == false)&&T.all fun t=>D.contains t
theorem behind_not {listed:Array Bool} {i:Nat} {D:List Nat} (hD:∀ d∈D,(∃ o,ops[d]?=some o/\∃ e∈o.after,Region.binds md e=true/\(e.on=i\/e.on∈D))/\listed.getD d true=false) (hi:listed.getD i true=false) {j:Nat} (hj:j∈Region.ready md ops listed):j ∉ D:=by
 intro hjD
 obtain⟨⟨o,ho,e,he,hb,hon⟩,-⟩:=hD j hjD
 obtain⟨-,oj,hoj,hall⟩:=mem_ready.1 hj
 rw[ho]at hoj
 cases hoj
 have h1:=hall e he hb
 have h0:listed.getD e.on true=false:=by
  rcases hon with h | h
  ·rw[h];exact hi
  ·exact(hD _ h).2
 rcases Nat.lt_or_ge e.on listed.size with h' | h'
 ·simp[h']at h0 h1;rw[h0]at h1;cases h1
 ·simp[Array.getElem?_eq_none h']at h1
theorem until_of {listed:Array Bool} {i:Nat} {T D:List Nat} (hT:∀ t∈T,t∈D) (hD:∀ d∈D,listed.getD d true=false) (hi:i ∉ D):untilB T (listed.setIfInBounds i true)=true:=by
 unfold untilB
 rw[List.all_eq_true]
 intro t ht
 have:i≠t:=fun e=>hi (e ▸ hT t ht)
 rw[getD_set_ne true this,hD t (hT t ht)];rfl
theorem wpAnyT_first {i:Nat} {oi:Oper} {v:Value} {D:List Nat} (hi:ops[i]?=some oi) (hsel:∀ (j:Nat) (o:Oper) cs b,ops[j]?=some o->o.op≠.select cs b)
 (hQ:∀ c a w,Q (.panic c) (a.put oi.dst v) w->Q (.panic c) a w) (hTD:∀ t∈T,t∈D) :
 ∀ (fuel:Nat) (listed:Array Bool) (a:Act) (w:World),
  (∀ j oj,ops[j]?=some oj->j≠i->listed.getD j true=false->(∀ e∈oj.after,Region.binds md e=true->e.on≠i)->oi.apart ops oj=true) ->
  (∀ d∈D,(∃ o,ops[d]?=some o/\∃ e∈o.after,Region.binds md e=true/\(e.on=i\/e.on∈D))/\listed.getD d true=false) ->
  i∈Region.ready md ops listed->YieldsIf P ops S oi v a->S w ->
  wpAnyT P md ops Q S T fuel (listed.setIfInBounds i true) (a.put oi.dst v) w->wpAnyT P md ops Q S T (fuel+1) listed a w:=by
 intro fuel
 induction fuel with
 | zero=>
  intro listed a w _ hD hr hy hS H
  refine⟨fun h=>(by rw[h]at hr;cases hr),fun j hj=>?_⟩
  by_cases hji:j=i
  ·subst hji;exact hy.wpOp hi hS ⟨fun _=>hS,H⟩
  ·have:=ready_mono hj hji
   rw[H.1]at this
   cases this
 | succ fuel ih=>
  intro listed a w hfree hD hr hy hS H
  have hi0:listed.getD i true=false:=by
   obtain⟨h0,-⟩:=mem_ready.1 hr
   exact h0
  refine⟨fun h=>(by rw[h]at hr;cases hr),fun j hj=>?_⟩
  by_cases hji:j=i
  ·subst hji;exact hy.wpOp hi hS ⟨fun _=>hS,H⟩
  ·have h1:=H.2 j (ready_mono hj hji)
   obtain⟨hjun,oj,hoj,hall⟩:=mem_ready.1 hj
   have hnot:∀ e∈oj.after,Region.binds md e=true->e.on≠i:=fun e he hb heq=>by
    have h1:=hall e he hb
    have h0:=(mem_ready.1 hr).1
    rw[heq]at h1
    rcases Nat.lt_or_ge i listed.size with h' | h'
    ·simp[h']at h0 h1;rw[h0]at h1;cases h1
    ·simp[Array.getElem?_eq_none h']at h1
   have hjD:j ∉ D:=behind_not hD hi0 hj
   have hiD:i ∉ D:=behind_not hD hi0 hr
   have h2:=wpOp_putIf hoj (hfree j oj hoj hji hjun hnot) (fun cs b=>hsel i oi cs b hi) (fun cs b=>hsel j oj cs b hoj) hQ hy h1
   have hfree':∀ k ok,ops[k]?=some ok->k≠i->(listed.setIfInBounds j true).getD k true=false ->
    (∀ e∈ok.after,Region.binds md e=true->e.on≠i)->oi.apart ops ok=true:=fun k ok hk hki hun hno=>by
    refine hfree k ok hk hki ?_ hno
    by_cases hjk:j=k
    ·subst hjk;exact hjun
    ·rw[getD_set_ne true hjk]at hun;exact hun
   have hD':∀ d∈D,(∃ o,ops[d]?=some o/\∃ e∈o.after,Region.binds md e=true/\(e.on=i\/e.on∈D))/\(listed.setIfInBounds j true).getD d true=false:=fun d hd=>by
    refine⟨(hD d hd).1,?_⟩
    have:j≠d:=fun e=>hjD (e ▸ hd)
    rw[getD_set_ne true this];exact(hD d hd).2
   have hu:untilB T (((listed.setIfInBounds i true)).setIfInBounds j true)=true:=until_of hTD (fun d hd=>by
    have:i≠d:=fun e=>hiD (e ▸ hd)
    rw[getD_set_ne true this];exact(hD d hd).2) hjD
   refine wpOp_mono (fun a' w' h3=>⟨fun _=>h3.2.1 hu,ih (listed.setIfInBounds j true) a' w' hfree' hD' (ready_mono hr (Ne.symm hji)) h3.1 (h3.2.1 hu) ?_⟩) h2
   rw[Array.setIfInBounds_comm _ _ hji]
   exact h3.2.2
theorem wpAnyT_take {i:Nat} {oi:Oper} {v:Value} {fuel:Nat} {listed:Array Bool} {a:Act} {w:World} (D:List Nat) (hi:ops[i]?=some oi)
 (hs:Region.noSelect ops=true) (hf:Region.free md ops listed i=true) (hr:(Region.ready md ops listed).contains i=true) (hB:behindB md ops listed i T D=true)
 (hQ:∀ c a w,Q (.panic c) (a.put oi.dst v) w->Q (.panic c) a w) (hy:YieldsIf P ops S oi v a) (hS:S w)
 (h:wpAnyT P md ops Q S T fuel (listed.setIfInBounds i true) (a.put oi.dst v) w):wpAnyT P md ops Q S T (fuel+1) listed a w:=by
 unfold behindB at hB
 rw[Bool.and_eq_true,List.all_eq_true,List.all_eq_true]at hB
 refine wpAnyT_first (D:=D) hi (Region.noSelect_spec hs) hQ (fun t ht=>by simpa using hB.2 t ht) fuel listed a w (Region.free_spec hi hf) (fun d hd=>?_) (by simpa using hr) hy hS h
 have h1:=hB.1 d hd
 rw[Bool.and_eq_true]at h1
 refine⟨?_,by simpa using h1.2⟩
 cases ho:ops[d]? with
 | none=>rw[ho]at h1;simp at h1
 | some o=>
  rw[ho]at h1
  have h2:=h1.1
  simp only[Array.any_eq_true]at h2
  obtain⟨k,hk,h3⟩:=h2
  refine⟨o,rfl,o.after[k],Array.getElem_mem hk,?_⟩
  simpa using h3
def AllReadyT (P:Program) (md:Region.Mode) (ops:Array Oper) (Q:Exit->Act->World->Prop) (S:World->Prop) (T:List Nat) (fuel:Nat) (listed:Array Bool) (a:Act) (w:World) (rs:List Nat):Prop:=
 ∀ i∈rs,wpOp P ops Q i (fun a' w'=>(untilB T (listed.setIfInBounds i true)=true->S w')/\wpAnyT P md ops Q S T fuel (listed.setIfInBounds i true) a' w') a w
theorem AllReadyT.nil {fuel:Nat} {listed:Array Bool} {a:Act} {w:World}:AllReadyT P md ops Q S T fuel listed a w []:=fun _ h=>by cases h
theorem AllReadyT.cons {fuel:Nat} {listed:Array Bool} {a:Act} {w:World} {i:Nat} {o:Oper} {rs:List Nat} (ho:ops[i]?=some o)
 (h:∀ K':Act->World->Prop,Shut (∀ a w,S w->(S w->wpAnyT P md ops Q S T fuel (listed.setIfInBounds i true) a w)->K' a w)->if Region.wanted o (yielded ops a.tmps)=true then Oper.wp P o a w K' Q else K' (a.put o.dst undef) w)
 (hs:AllReadyT P md ops Q S T fuel listed a w rs):AllReadyT P md ops Q S T fuel listed a w (i :: rs):=fun j hj=>by
 rcases List.mem_cons.1 hj with rfl | hj
 ·exact wpOp_step ho (fun K' hK=>h K' (fun a w hS hW=>hK a w ⟨fun _=>hS,hW hS⟩))
 ·exact hs j hj
theorem wpAnyT_ready {rs:List Nat} {fuel:Nat} {listed:Array Bool} {a:Act} {w:World} (hr:Region.ready md ops listed=rs) (hne:rs≠[])
 (h:AllReadyT P md ops Q S T fuel listed a w rs):wpAnyT P md ops Q S T (fuel+1) listed a w:=⟨fun h0=>absurd (hr ▸ h0) hne,hr ▸ h⟩
theorem wpAnyT_last {i:Nat} {o:Oper} {fuel:Nat} {listed:Array Bool} {a:Act} {w:World} (hr:Region.ready md ops listed=[i]) (hu:untilB T (listed.setIfInBounds i true)=false) (ho:ops[i]?=some o)
 (h:∀ K':Act->World->Prop,Shut (∀ a w,wpAnyT P md ops Q S T fuel (listed.setIfInBounds i true) a w->K' a w)->if Region.wanted o (yielded ops a.tmps)=true then Oper.wp P o a w K' Q else K' (a.put o.dst undef) w) :
 wpAnyT P md ops Q S T (fuel+1) listed a w:=by
 refine⟨fun h0=>(by rw[hr]at h0;cases h0),fun j hj=>?_⟩
 rw[hr,List.mem_singleton]at hj
 subst hj
 exact wpOp_step ho (fun K' hK=>h K' (fun a w hW=>hK a w ⟨fun h=>absurd h (by rw[hu];simp),hW⟩))
theorem wpAnyT_done {listed:Array Bool} {a:Act} {w:World} (hr:Region.ready md ops listed=[]) (h:Q .normal a w) :
 ∀ fuel,wpAnyT P md ops Q S T fuel listed a w
 | 0=>⟨hr,h⟩
 | _+1=>⟨fun _=>h,by rw[hr];simp⟩
theorem wp_region_T {id:Nat} {a:Act} {w:World} (S:World->Prop) (T:List Nat) (hm:P.follows .mixedOrders=true) (hS:S w.drew)
 (h:S w.drew->wpAnyT P .any ops Q S T ops.size (Array.replicate ops.size false) a w.drew):(Code.region id ops true).wp P Q a w:=
 wp_region_any hm (wpAny_of_T _ _ _ _ (h hS))
end
end Go.Proofs.YtmdemcjmcnfjmaaGreatDoor
namespace Go.Proofs.YtmdemcjmcnfjmaaGreatDoor
open Go
section
variable {P:Program} {ops:Array Oper} {Q:Exit->Act->World->Prop} {md:Region.Mode} {S:World->Prop} {T:List Nat}
theorem until_mono {listed:Array Bool} {i:Nat} {T:List Nat} (h:untilB T (listed.setIfInBounds i true)=true):untilB T listed=true:=by
 unfold untilB at h ⊢
 rw[List.all_eq_true]at h ⊢
 intro t ht
 have h0:=h t ht
 by_cases e:i=t
 ·subst e
  by_cases hs:i < listed.size
  ·simp[Array.getD,hs]at h0
  ·simp[Array.getD,hs]at h0
 ·rw[getD_set_ne true e]at h0;exact h0
theorem until_set {listed:Array Bool} {i:Nat} {T:List Nat} (hi:i ∉ T) (h:untilB T listed=true):untilB T (listed.setIfInBounds i true)=true:=by
 unfold untilB at h ⊢
 rw[List.all_eq_true]at h ⊢
 intro t ht
 have e:i≠t:=fun e=>hi (e ▸ ht)
 rw[getD_set_ne true e];exact h t ht
theorem wpAnyT_firstY {i:Nat} {oi:Oper} {v:Value} (hi:ops[i]?=some oi) (hsel:∀ (j:Nat) (o:Oper) cs b,ops[j]?=some o->o.op≠.select cs b)
 (hQ:∀ c a w,Q (.panic c) (a.put oi.dst v) w->Q (.panic c) a w) (hiT:i ∉ T) :
 ∀ (fuel:Nat) (listed:Array Bool) (a:Act) (w:World),
  (∀ j oj,ops[j]?=some oj->j≠i->listed.getD j true=false->(∀ e∈oj.after,Region.binds md e=true->e.on≠i)->oi.apart ops oj=true) ->
  i∈Region.ready md ops listed->Yields P ops oi v a->(untilB T listed=true->S w) ->
  wpAnyT P md ops Q S T fuel (listed.setIfInBounds i true) (a.put oi.dst v) w->wpAnyT P md ops Q S T (fuel+1) listed a w:=by
 intro fuel
 induction fuel with
 | zero=>
  intro listed a w _ hr hy hS H
  refine⟨fun h=>(by rw[h]at hr;cases hr),fun j hj=>?_⟩
  by_cases hji:j=i
  ·subst hji;exact hy.wpOp hi ⟨fun h=>hS (until_mono h),H⟩
  ·have:=ready_mono hj hji
   rw[H.1]at this
   cases this
 | succ fuel ih=>
  intro listed a w hfree hr hy hS H
  refine⟨fun h=>(by rw[h]at hr;cases hr),fun j hj=>?_⟩
  by_cases hji:j=i
  ·subst hji;exact hy.wpOp hi ⟨fun h=>hS (until_mono h),H⟩
  ·have h1:=H.2 j (ready_mono hj hji)
   obtain⟨hjun,oj,hoj,hall⟩:=mem_ready.1 hj
   have hnot:∀ e∈oj.after,Region.binds md e=true->e.on≠i:=fun e he hb heq=>by
    have h1:=hall e he hb
    have h0:=(mem_ready.1 hr).1
    rw[heq]at h1
    rcases Nat.lt_or_ge i listed.size with h' | h'
    ·simp[h']at h0 h1;rw[h0]at h1;cases h1
    ·simp[Array.getElem?_eq_none h']at h1
   have h2:=wpOp_put hoj (hfree j oj hoj hji hjun hnot) (fun cs b=>hsel i oi cs b hi) (fun cs b=>hsel j oj cs b hoj) hQ hy h1
   have hfree':∀ k ok,ops[k]?=some ok->k≠i->(listed.setIfInBounds j true).getD k true=false ->
    (∀ e∈ok.after,Region.binds md e=true->e.on≠i)->oi.apart ops ok=true:=fun k ok hk hki hun hno=>by
    refine hfree k ok hk hki ?_ hno
    by_cases hjk:j=k
    ·subst hjk;exact hjun
    ·rw[getD_set_ne true hjk]at hun;exact hun
   refine wpOp_mono (fun a' w' h3=>?_) h2
   have hs:untilB T (listed.setIfInBounds j true)=true->S w':=fun h=>h3.2.1 (by rw[Array.setIfInBounds_comm _ _ (Ne.symm hji)];exact until_set hiT h)
   refine⟨hs,ih (listed.setIfInBounds j true) a' w' hfree' (ready_mono hr (Ne.symm hji)) h3.1 hs ?_⟩
   rw[Array.setIfInBounds_comm _ _ hji]
   exact h3.2.2
theorem wpAnyT_takeY {i:Nat} {oi:Oper} {v:Value} {fuel:Nat} {listed:Array Bool} {a:Act} {w:World} (hi:ops[i]?=some oi)
 (hs:Region.noSelect ops=true) (hf:Region.free md ops listed i=true) (hr:(Region.ready md ops listed).contains i=true) (hT:T.contains i=false)
 (hQ:∀ c a w,Q (.panic c) (a.put oi.dst v) w->Q (.panic c) a w) (hy:Yields P ops oi v a) (hS:S w)
 (h:wpAnyT P md ops Q S T fuel (listed.setIfInBounds i true) (a.put oi.dst v) w):wpAnyT P md ops Q S T (fuel+1) listed a w:=
 wpAnyT_firstY hi (Region.noSelect_spec hs) hQ (by simpa using hT) fuel listed a w (Region.free_spec hi hf) (by simpa using hr) hy (fun _=>hS) h
end
end Go.Proofs.YtmdemcjmcnfjmaaGreatDoor
namespace Go.Proofs.YtmdemcjmcnfjmaaGreatDoor
open Go
section
variable {P:Program} {ops:Array Oper} {Q:Exit->Act->World->Prop} {md:Region.Mode} {S:World->Prop} {T:List Nat}
theorem aput (l:List Value) (d:List Deferred) (i:Nat) (v:Value):Act.put ⟨l.toArray,d⟩ (some i) v=⟨(l.set i v).toArray,d⟩:=by
 simp[Act.put]
structure WT (P:Program) (md:Region.Mode) (ops:Array Oper) (Q:Exit->Act->World->Prop) (S:World->Prop) (T:List Nat) (fuel:Nat) (listed:Array Bool) (a:Act) (w:World):Prop where
 out:wpAnyT P md ops Q S T fuel listed a w
structure WR (P:Program) (md:Region.Mode) (ops:Array Oper) (Q:Exit->Act->World->Prop) (S:World->Prop) (T:List Nat) (fuel:Nat) (listed:Array Bool) (a:Act) (w:World) (rs:List Nat):Prop where
 out:AllReadyT P md ops Q S T fuel listed a w rs
theorem tk {i d:Nat} {oi:Oper} {v:Value} {fuel:Nat} {listed:Array Bool} {a:Act} {w:World} (D:List Nat) (hi:ops[i]?=some oi) (hd:oi.dst=some d)
 (hc:(Region.noSelect ops&&Region.free md ops listed i&&(Region.ready md ops listed).contains i&&behindB md ops listed i T D)=true) (hw:Region.wanted oi (yielded ops a.tmps)=true)
 (hQ:∀ c a w,Q (.panic c) (a.put (some d) v) w->Q (.panic c) a w) (hS:S w) (hy:∀ w,S w->(execOp a.eval oi).run P w=.ok (.value v) w)
 (h:WT P md ops Q S T fuel (listed.setIfInBounds i true) (a.put (some d) v) w):WT P md ops Q S T (fuel+1) listed a w:=by
 simp only[Bool.and_eq_true]at hc
 rw[<-hd]at hQ h
 exact⟨wpAnyT_take D hi hc.1.1.1 hc.1.1.2 hc.1.2 hc.2 hQ (.inl ⟨hw,hy⟩) hS h.out⟩
theorem tkY {i d:Nat} {oi:Oper} {v:Value} {fuel:Nat} {listed:Array Bool} {a:Act} {w:World} (hi:ops[i]?=some oi) (hd:oi.dst=some d)
 (hc:(Region.noSelect ops&&Region.free md ops listed i&&(Region.ready md ops listed).contains i&&!T.contains i)=true) (hw:Region.wanted oi (yielded ops a.tmps)=true)
 (hQ:∀ c a w,Q (.panic c) (a.put (some d) v) w->Q (.panic c) a w) (hS:S w) (hy:∀ w,(execOp a.eval oi).run P w=.ok (.value v) w)
 (h:WT P md ops Q S T fuel (listed.setIfInBounds i true) (a.put (some d) v) w):WT P md ops Q S T (fuel+1) listed a w:=by
 simp only[Bool.and_eq_true,Bool.not_eq_true']at hc
 rw[<-hd]at hQ h
 exact⟨wpAnyT_takeY hi hc.1.1.1 hc.1.1.2 hc.1.2 hc.2 hQ (.inl ⟨hw,hy⟩) hS h.out⟩
theorem rdy (rs:List Nat) {fuel:Nat} {listed:Array Bool} {a:Act} {w:World} (hr:(Region.ready md ops listed == rs&&!rs.isEmpty)=true)
 (h:WR P md ops Q S T fuel listed a w rs):WT P md ops Q S T (fuel+1) listed a w:=by
 rw[Bool.and_eq_true,beq_iff_eq]at hr
 exact⟨wpAnyT_ready hr.1 (by intro e;rw[e]at hr;simp at hr) h.out⟩
theorem nl {fuel:Nat} {listed:Array Bool} {a:Act} {w:World}:WR P md ops Q S T fuel listed a w []:=⟨AllReadyT.nil⟩
theorem cns {fuel:Nat} {listed:Array Bool} {a:Act} {w:World} {i:Nat} {o:Oper} {rs:List Nat} (ho:ops[i]?=some o)
 (h:∀ K':Act->World->Prop,Shut (∀ a w,S w->(S w->WT P md ops Q S T fuel (listed.setIfInBounds i true) a w)->K' a w)->if Region.wanted o (yielded ops a.tmps)=true then Oper.wp P o a w K' Q else K' (a.put o.dst undef) w)
 (hs:WR P md ops Q S T fuel listed a w rs):WR P md ops Q S T fuel listed a w (i :: rs):=
 ⟨AllReadyT.cons ho (fun K' hK=>h K' (fun a w hS hW=>hK a w hS fun h=>(hW h).out)) hs.out⟩
theorem lst {i:Nat} {o:Oper} {fuel:Nat} {listed:Array Bool} {a:Act} {w:World} (hr:(Region.ready md ops listed == [i]&&!untilB T (listed.setIfInBounds i true))=true) (ho:ops[i]?=some o)
 (h:∀ K':Act->World->Prop,Shut (∀ a w,WT P md ops Q S T fuel (listed.setIfInBounds i true) a w->K' a w)->if Region.wanted o (yielded ops a.tmps)=true then Oper.wp P o a w K' Q else K' (a.put o.dst undef) w) :
 WT P md ops Q S T (fuel+1) listed a w:=by
 rw[Bool.and_eq_true,beq_iff_eq,Bool.not_eq_true']at hr
 exact⟨wpAnyT_last hr.1 hr.2 ho (fun K' hK=>h K' (fun a w hW=>hK a w hW.out))⟩
theorem dn {listed:Array Bool} {a:Act} {w:World} {fuel:Nat} (hr:Region.ready md ops listed=[]) (h:Q .normal a w):WT P md ops Q S T fuel listed a w:=⟨wpAnyT_done hr h fuel⟩
end
end Go.Proofs.YtmdemcjmcnfjmaaGreatDoor
namespace Go.Proofs.YtmdemcjmcnfjmaaGreatDoor
open Go.RowKit
abbrev IsB (B b:Nat) (l:List UInt8) (w:World):Prop:=Lib.IsBuilderF 74 5 B b (Lib.byteCells l) w
theorem IsB.bel {B b:Nat} {l:List UInt8} {w w':World} (h:IsB B b l w) (hb:Below w.heap.size w w'):IsB B b l w':=by
 rcases h with⟨h1,v,h2,h3,h4⟩ | ⟨h1,v,h2,h3,h4⟩
 ·exact .inl ⟨h1,v,(hb.block _ (Array.getElem?_eq_some_iff.1 h2).1).trans h2,h3.kept (gb_below (r:=none) hb) (by cases v.ownBlock <;> simp),h4⟩
 ·exact .inr ⟨h1,v,(hb.block _ (Array.getElem?_eq_some_iff.1 h2).1).trans h2,h3.kept (gb_below (r:=none) hb) (by cases v.ownBlock <;> simp),h4⟩
theorem writeByte_at (B b:Nat) (l:List UInt8) (w:World) (h:IsB B b l w) (hl:l.length<=1000000000) (hB:B<=w.heap.size) :
 Calls Tryz.prog 42 #[.pointer (some ⟨b,0,none⟩),.int .u8 47] w fun e w'=>e=.returned .nilIface/\IsB B b (l++[47]) w'/\Below B w w':=by
 have hl2:(Lib.byteCells l).length=l.length:=by simp[Lib.byteCells]
 refine(Any.Builder_WriteByte_k Tryz.laysB167 Tryz.laysB_extra B b (Lib.byteCells l) 47 w h (by omega) hB).mono ?_
 rintro e w' ⟨rfl,h1,h2,-⟩
 refine⟨rfl,.inr ?_,h2⟩
 have e1:Lib.byteCells (l++[47])=Lib.byteCells l++[.int .u8 47]:=by simp[Lib.byteCells]
 rw[e1];exact h1
theorem writeString_at (B b:Nat) (l s:List UInt8) (w:World) (h:IsB B b l w) (hl:l.length<=1000000000) (hs:s.length<=1000000000) (hB:B<=w.heap.size) :
 Calls Tryz.prog 43 #[.pointer (some ⟨b,0,none⟩),.string ⟨s.toArray⟩] w fun e w'=>e=.returned (.tuple #[.int .i64 s.length,.nilIface])/\IsB B b (l++s) w'/\Below B w w':=by
 have hl2:(Lib.byteCells l).length=l.length:=by simp[Lib.byteCells]
 refine(Any.Builder_WriteString_k Tryz.laysB166 Tryz.laysB_extra B b (Lib.byteCells l) ⟨s.toArray⟩ w h (by rw[ba_size];omega) hB).mono ?_
 rintro e w' ⟨rfl,h1,h2,-⟩
 refine⟨by rw[ba_size],.inr ?_,h2⟩
 have e1:Lib.byteCells (l++s)=Lib.byteCells l++Lib.strCells ⟨s.toArray⟩:=by simp[Lib.byteCells,Lib.strCells]
 rw[e1];exact h1
theorem string_at (B b:Nat) (l:List UInt8) (w:World) (h:IsB B b l w) (hB:B<=w.heap.size) :
 Calls Tryz.prog 45 #[.pointer (some ⟨b,0,none⟩)] w fun e w'=>e=.returned (.string ⟨l.toArray⟩)/\Below B w w':=by
 refine(Any.Builder_String_any_k Tryz.laysB169 Tryz.laysB_extra B b l w h hB).mono ?_
 rintro e w' ⟨rfl,-,h2,-⟩
 exact⟨rfl,h2⟩
set_option maxRecDepth 100000 in
set_option maxHeartbeats 10000000 in
theorem marked_at (w:World) (s:List UInt8) (hs:s.length<=10000000) (hM:GlobM w) :
 Calls Tryz.prog 44 #[str s] w fun e w'=>e=.returned (str (markedL s))/\Below w.heap.size w w':=by
 have HM:=hidI hM
 clear hM
 unfold str
 go_enter Tryz.func44,Tryz.ntmps44
 go_wp2_with fail
 refine(repl_at _ s [126] [126,48] (by omega) (by simp) (by simp) (by exact HM.out)).mono ?_
 rintro e w1 ⟨rfl,hb1⟩
 have HB1:=hidI hb1
 have HM1:=hidI (HM.out.bel hb1)
 have hl:(Lib.replaceAll s [126] [126,48]).length<=2 * s.length:=by
  rw[mark1]
  generalize s=s
  induction s with
  | nil=>simp
  | cons c s ih=>
   have:(if c=126 then [126,48] else [c]:List UInt8).length<=2:=by split <;> simp
   simp only[List.flatMap_cons,List.length_append,List.length_cons];omega
 clear hb1
 go_wp2_with fail
 refine(repl_at _ (Lib.replaceAll s [126] [126,48]) [47] [126,49] (by omega) (by simp) (by simp) (by exact HM1.out)).mono ?_
 rintro e w2 ⟨rfl,hb2⟩
 have HB2:=hidI hb2
 clear hb2
 go_wp2_with fail
 go_ret
 exact⟨rfl,bel_trans HB1.out HB2.out⟩
theorem join_take {l:List (List UInt8)} {k:Nat} (h:k < l.length):joinP (l.take (k+1))=joinP (l.take k)++[47]++markedL l[k]:=by
 unfold joinP
 rw[List.take_add_one,List.getElem?_eq_getElem h,List.flatMap_append]
 simp
theorem join_part (l:List (List UInt8)) (k:Nat):(joinP (l.take k)).length<=(joinP l).length:=by
 have:joinP l=joinP (l.take k)++joinP (l.drop k):=by
  unfold joinP
  rw[<-List.flatMap_append,List.take_append_drop]
 rw[this,List.length_append];omega
theorem isB_new (w:World) (o:Obj) (ho:o=.cells #[.pointer none,.slice none 0 0] 74):IsB w.heap.size w.heap.size [] (w.alloc o):=by
 subst ho
 exact .inl ⟨Nat.le_refl _,.slice none 0 0,heap_alloc_new w _,World.ownsRowF_of (World.ownsRow_nil _ _ _ _),by simp[Value.ownBlock]⟩
set_option maxRecDepth 100000 in
set_option maxHeartbeats 4000000 in
theorem join_at (w:World) (ok:Nat->Prop) (l:List (List UInt8)) (v:Value) (hl:StrsAre w ok l v) (hn:∀ x∈l,x.length<=10000000) (hj:(joinP l).length<=10000000) (hM:GlobM w) :
 Calls Tryz.prog 17 #[v] w fun e w'=>e=.returned (str (joinP l))/\Below w.heap.size w w':=by
 obtain⟨a1,c1,rfl⟩:=hl.form
 have HL:=hidI hl
 have HN:=hidI hn
 have HM:=hidI hM
 have hl1:=hl.1
 unfold maxLen at hl1
 clear hl hn hM
 have S0:Hid (IsB w.heap.size w.heap.size (joinP (l.take 0)) (w.alloc (.cells #[.pointer none,.slice none 0 0] 74))/\Below w.heap.size w (w.alloc (.cells #[.pointer none,.slice none 0 0] 74))):=⟨isB_new w _ rfl,bel_alloc _ _⟩
 unfold str
 go_enter Tryz.func17,Tryz.ntmps17
 go_wp2_with fail
 go_loopg [8] l.length (fun gk i wr=>∃ k:Nat,k<=l.length/\gk=l.length - k/\i=.int .i64 k/\IsB w.heap.size w.heap.size (joinP (l.take k)) wr/\Below w.heap.size w wr)
 case atStart=>exact⟨0,Nat.zero_le _,rfl,rfl,S0.out.1,S0.out.2⟩
 case round=>
  obtain⟨k,hk,hgk,rfl,hh,hbl⟩:=hrel
  have GK:=hidI hgk
  have A:Hid (IsB w.heap.size w.heap.size (joinP (l.take k)) wr/\Below w.heap.size w wr):=⟨hh,hbl⟩
  clear hgk hh hbl
  have hpart:=join_part l k
  by_cases hlt:k < l.length
  ·obtain⟨kb,ko,rfl,hc1,hc2,hc⟩:=strs_cells HL.out hlt
   have c9:wr.cell? ⟨kb,ko+k,none⟩=some (.string ⟨l[k].toArray⟩):=cell_bel A.out.2 hc
   have hpart2:=join_part l (k+1)
   have JT:=hidI (join_take hlt)
   have hlk:l[k].length<=10000000:=HN.out _ (List.getElem_mem _)
   have hmk:(markedL l[k]).length<=10000000:=by
    have e:=congrArg List.length JT.out
    simp only[List.length_append,List.length_cons,List.length_nil]at e
    omega
   clear hc
   unfold maxLen at hc2
   go_wp2_with fail
   refine(writeByte_at w.heap.size w.heap.size (joinP (l.take k)) _ (by exact A.out.1) (by omega) (by exact A.out.2.size)).mono ?_
   rintro e w1 ⟨rfl,hB1,hb1⟩
   have A1:Hid (IsB w.heap.size w.heap.size (joinP (l.take k)++[47]) w1/\Below w.heap.size w w1):=⟨hB1,A.out.2.trans hb1⟩
   clear hB1 hb1
   have M1:=hidI (HM.out.bel A1.out.2)
   go_wp2_with fail
   refine(marked_at _ l[k] (by omega) (by exact M1.out)).mono ?_
   rintro e w2 ⟨rfl,hb2⟩
   have A2:Hid (IsB w.heap.size w.heap.size (joinP (l.take k)++[47]) w2/\Below w.heap.size w w2):=⟨A1.out.1.bel hb2,bel_trans A1.out.2 hb2⟩
   clear hb2
   unfold str
   go_wp2_with fail
   refine(writeString_at w.heap.size w.heap.size (joinP (l.take k)++[47]) (markedL l[k]) _ (by exact A2.out.1) (by simp only[List.length_append,List.length_cons,List.length_nil];omega) (by omega) (by exact A2.out.2.size)).mono ?_
   rintro e w3 ⟨rfl,hB3,hb3⟩
   have A3:Hid (IsB w.heap.size w.heap.size (joinP (l.take (k+1))) w3/\Below w.heap.size w w3):=⟨by rw[JT.out];exact hB3,A2.out.2.trans hb3⟩
   clear hB3 hb3
   go_wp2_with fail
   go_roundg (l.length - (k+1))
   case measure=>rw[GK.out];omega
   case rel=>exact⟨k+1,by omega,rfl,by go_num,A3.out.1,A3.out.2⟩
  ·have hke:k=l.length:=by omega
   subst hke
   have A4:Hid (IsB w.heap.size w.heap.size (joinP l) wr/\Below w.heap.size w wr):=⟨by have:=A.out.1;rwa [List.take_length]at this,A.out.2⟩
   clear A
   go_wp2_with fail
   refine(string_at w.heap.size w.heap.size (joinP l) _ (by exact A4.out.1) (by exact A4.out.2.size)).mono ?_
   rintro e w1 ⟨rfl,hb1⟩
   have HB1:=hidI hb1
   clear hb1
   go_wp2_with fail
   go_ret
   exact⟨rfl,A4.out.2.trans HB1.out⟩
end Go.Proofs.YtmdemcjmcnfjmaaGreatDoor
namespace Go.Proofs.YtmdemcjmcnfjmaaGreatDoor
open Go.RowKit
theorem rg_str {a W:World} {key:List UInt8} (_:Below a.heap.size a W) (hk:key.length<=maxLen):StrsAre (W.alloc (.cells #[.string ⟨key.toArray⟩] 9)) (fun _=>True) [key] (.slice (some ⟨W.heap.size,0,none⟩) 1 1):=one_str W key hk
def ZBox (a W:World) (g:Nat):Prop:=BoxIs W g (.int .i64 0) (.int .i64 0) (.string ⟨#[]⟩) (.slice none 0 0) (.slice none 0 0)/\a.heap.size<=g
theorem rg_box {a W:World} (h:Below a.heap.size a W):ZBox a (W.alloc (.cells #[.int .i64 0,.int .i64 0,.string ⟨#[]⟩,.slice none 0 0,.slice none 0 0] 25)) W.heap.size:=⟨heap_alloc_new _ _,h.size⟩
theorem box_belA {a W W':World} {g:Nat} (hb:Below W.heap.size W W') (h:ZBox a W g):ZBox a W' g:=⟨box_bel hb h.1,h.2⟩
theorem rg_fin {a W:World} {g:Nat} (h:Below a.heap.size a W) (hz:ZBox a W g) (d0 d1 d2 d3 d4:Value):BoxIs (set5 W g d0 d1 d2 d3 d4) g d0 d1 d2 d3 d4/\Below a.heap.size a (set5 W g d0 d1 d2 d3 d4):=
 ⟨hz.1.set _ _ _ _ _,bel_set5 h hz.2 _ _ _ _ _⟩
theorem rg_new {a W:World} (h:Below a.heap.size a W) (d0 d1 d2 d3 d4:Value):BoxIs (W.alloc (.cells #[d0,d1,d2,d3,d4] 25)) W.heap.size d0 d1 d2 d3 d4/\Below a.heap.size a (W.alloc (.cells #[d0,d1,d2,d3,d4] 25)):=⟨heap_alloc_new _ _,bel_trans h (bel_alloc _ _)⟩
theorem rg_size (w:World) (o:Obj):(w.alloc o).drew.heap.size=w.heap.size+1:=by show (World.alloc w o).heap.size=_;simp
def GathI (w:World) (gl:Nat) (r:Option Nat) (L:List (List UInt8)) (D:Nat) (t:V) (at_:List UInt8) (a1 a2:Option Addr) (c1 c2 k:Nat) (wr:World):Prop:=
 ∃ r',GatI wr gl (L++pathsU at_ (lvsU D t k)) r'/\Kept2 w wr gl r/\Fresh w r r'/\BoxIs wr w.heap.size (.int .i64 t.kind) (.int .i64 t.n) (.string ⟨t.s.toArray⟩) (.slice a1 t.keys.length c1) (.slice a2 t.l.length c2)/\some w.heap.size≠r'
theorem gath_next {w wr wc w':World} {gl:Nat} {r:Option Nat} {L:List (List UInt8)} {D:Nat} {t:V} {at_:List UInt8} {a1 a2:Option Addr} {c1 c2 k:Nat} (hgl:gl < w.heap.size) {r':Option Nat} (h2:Kept2 w wr gl r) (h3:Fresh w r r') (h4:BoxIs wr w.heap.size (.int .i64 t.kind) (.int .i64 t.n) (.string ⟨t.s.toArray⟩) (.slice a1 t.keys.length c1) (.slice a2 t.l.length c2)) (h5:some w.heap.size≠r')
 (hb:Below wr.heap.size wr wc) (hp:GatP wc w' gl r' (L++pathsU at_ (lvsU D t (k+1)))):GathI w gl r L D t at_ a1 a2 c1 c2 (k+1) w':=by
 obtain⟨r2,g1,g2,g3⟩:=hp
 have hsz:=h4.lt
 have hsz2:=hb.size
 refine⟨r2,g1,(h2.trans h3 (kept2_bel hb)).trans (h3) g2,(h3.trans (by have:=h2.size;omega) g3),?_,?_⟩
 ·have e1:wc.heap[w.heap.size]?=wr.heap[w.heap.size]?:=hb.block _ hsz
  have e2:=g2.block w.heap.size (by omega) (by omega) h5
  exact e2.trans (e1.trans h4)
 ·rcases g3 with rfl | ⟨g,rfl,hg⟩
  ·exact h5
  ·simp;omega
attribute [local go_sem ↓] Go.wp_at_zero Go.wp_at_succ
set_option maxRecDepth 100000 in
set_option maxHeartbeats 8000000 in
theorem gather_at:∀ (D:Nat) (w:World) (ok:Nat->Prop) (t:V) (v:Value) (at_:List UInt8) (gl:Nat) (L:List (List UInt8)) (r:Option Nat),In w ok t v->(∀ k,ok k->k < gl)->GoodT D t->t.kind=5->at_.length+130 * D<=100000->L.length+cnt t<=100000->GatI w gl L r->(∀ W,Below gl w W->GlobM W) ->
 Calls Tryz.prog 32 #[v,.string ⟨at_.toArray⟩,.pointer (some ⟨gl,0,none⟩)] w fun e w'=>e=.returned (.tuple #[])/\GatP w w' gl r (L++pathsU at_ (lvs D t)):=by
 intro D
 induction D with
 | zero=>intro w ok t v at_ gl L r _ _ h;exact h.elim
 | succ D ih=>
 intro w ok t v at_ gl L r h hok hg hk hat hcn hG hM
 have H:=hidI h
 have OK:=hidI hok
 have GD:=hidI hg
 have HG:=hidI hG
 have HM:=hidI hM
 have IH:=hidI ih
 have AT:=hidI hat
 have CNT:Hid (L.length+cnt t<=100000):=hidI hcn
 have hpair:t.keys.length=t.l.length:=by
  have:=(shaped_object hg.1 hk).1
  simp only[pairedV,Bool.and_eq_true,decide_eq_true_eq]at this
  exact this.2
 have PR:=hidI hpair
 have KEYS:=hidI (keys_plain hg.1 hk)
 have GLT:=hidI hG.lt
 obtain⟨l1,l2,l3⟩:=h.lens
 obtain⟨a1,a2,c1,c2,rfl⟩:=h.form
 have hrow:Hid (∀ g,r=some g->gl < g/\g < w.heap.size):=hidI (fun g hg=>hG.row hg)
 clear h hok hg hk hat hcn hG hM ih hpair
 have B0:Hid (Below w.heap.size w (w.alloc (.cells #[.int .i64 t.kind,.int .i64 t.n,.string ⟨t.s.toArray⟩,.slice a1 t.keys.length c1,.slice a2 t.l.length c2] 25))):=hidI (bel_alloc _ _)
 have S0:Hid (GathI w gl r L D t at_ a1 a2 c1 c2 0 (w.alloc (.cells #[.int .i64 t.kind,.int .i64 t.n,.string ⟨t.s.toArray⟩,.slice a1 t.keys.length c1,.slice a2 t.l.length c2] 25))):=hidI ⟨r,by rw[lvsU_zero];simpa [pathsU] using HG.out.bel B0.out,kept2_bel B0.out,.inl rfl,heap_alloc_new _ _,fun e=>by have:=(hrow.out _ e.symm).2;omega⟩
 go_enter Tryz.func32,Tryz.ntmps32
 go_wp2_with fail
 go_loopg [13] t.keys.length (fun gk i wr=>∃ k:Nat,k<=t.keys.length/\gk=t.keys.length - k/\i=.int .i64 k/\Hid (GathI w gl r L D t at_ a1 a2 c1 c2 k wr))
 case atStart=>exact⟨0,Nat.zero_le _,rfl,rfl,S0⟩
 case round=>
  obtain⟨k,hk,hgk,rfl,I⟩:=hrel
  have GK:=hidI hgk
  clear hgk
  by_cases hlt:k < t.keys.length
  ·have hll:k < t.l.length:=by rw[<-PR.out];exact hlt
   obtain⟨r',i1,i2,i3,i4,i5⟩:=I.out
   have LB:Hid (Below gl w wr):=hidI (i2.low GLT.out (fun g hg=>(hrow.out g hg).1))
   have HI:Hid (In wr ok t (.agg #[.int .i64 t.kind,.int .i64 t.n,.string ⟨t.s.toArray⟩,.slice a1 t.keys.length c1,.slice a2 t.l.length c2])):=hidI (H.out.belB OK.out LB.out)
   have I1:=hidI i1
   have I2:=hidI i2
   have I3:=hidI i3
   have I4:=hidI i4
   have I5:=hidI i5
   obtain⟨kb,ko,rfl,kc1,kc2,kcell,klen⟩:=HI.out.key hlt
   obtain⟨lb,lo,a5,c5,a6,c6,rfl,lc1,lc2,y0,y1,y2,y3,y4,hit⟩:=HI.out.item hll
   have HIT:=hidI hit
   obtain⟨p0,p1,p2,p3,p4,-⟩:=i4.c
   have P3:=hidI p3
   have P4:=hidI p4
   have Q0:=hidI y0
   have Q1:=hidI y1
   have Q2:=hidI y2
   have Q3:=hidI y3
   have Q4:=hidI y4
   have KL:Hid (t.keys[k].length<=maxLen):=hidI (by unfold maxLen;exact klen)
   have k60:=KEYS.out t.keys[k] (List.getElem_mem _)
   have KN:Hid (∀ x∈[t.keys[k]],x.length<=10000000):=hidI (fun x hx=>by rw[List.mem_singleton]at hx;rw[hx];omega)
   have kjl:(joinP [t.keys[k]]).length<=121:=by
    rw[join_cons]
    have:=(marked_len t.keys[k]).2
    simp only[List.length_cons,List.length_append,joinP,List.flatMap_nil,List.length_nil]
    omega
   have KJ:Hid ((joinP [t.keys[k]]).length<=10000000):=hidI (by omega)
   have KJL:=hidI kjl
   have GM:Hid (∀ W,Below wr.heap.size wr W->GlobM W):=hidI (fun W hW=>HM.out W (LB.out.trans (hW.mono (Nat.le_trans (Nat.le_of_lt GLT.out) I2.out.size))))
   have w2:(k:Int) < (t.keys.length:Int):=by omega
   have w3:(k:Int) < (t.l.length:Int):=by omega
   have w4:(0:Int)<=(k:Int):=by omega
   have sl:¬9223372036854775807 < at_.length+(joinP [t.keys[k]]).length:=by have:=AT.out;omega
   have CAT0:ByteArray.mk at_.toArray++ByteArray.mk (joinP [t.keys[k]]).toArray=ByteArray.mk (at_++joinP [t.keys[k]]).toArray:=ba_app _ _
   have CAT:Hid ((at_++joinP [t.keys[k]])=(at_++joinP [t.keys[k]])):=hidI rfl
   have US:=hidI (lvsU_step (D:=D) hlt hll)
   have UC:=hidI (lvsU_cnt D t k)
   have CT:=hidI (cnts_takeK hll)
   have CE:=hidI (cnt_eq t)
   clear i1 i2 i3 i4 i5 hit p0 p1 p2 p3 p4 y0 y1 y2 y3 y4 klen k60 kjl I
   have q3:=P3.out
   have q4:=P4.out
   go_upto_region 4 with fail
   clear q3 q4
   go_cut [8,9] (fun sv pv wc=>∃ g9:Nat,pv=.pointer (some ⟨g9,0,none⟩)/\sv=.string ⟨(at_++joinP [t.keys[k]]).toArray⟩/\BoxIs wc g9 (.int .i64 t.l[k].kind) (.int .i64 t.l[k].n) (.string ⟨t.l[k].s.toArray⟩) (.slice a5 t.l[k].keys.length c5) (.slice a6 t.l[k].l.length c6)/\Below wr.heap.size wr wc)
   case first=>
    refine wp_region_T (fun wS=>Below wr.heap.size wr wS) [12] (by kernel_rfl) (bel_drewN _ 1) (fun hHeld=>?_)
    refine WT.out ?_
    refine tk (i:=0) (d:=18) (v:=?_) [4,11,12] rfl rfl (by decide +kernel) rfl (fun _ _ _ h=>h) hHeld ?_ ?_
    rotate_left
    ·intro wS hSw
     go_simp
     all_goals with_reducible rfl
    simp only[aput,List.set]
    refine tk (i:=1) (d:=19) (v:=?_) [2,3,4,11,12] rfl rfl (by decide +kernel) rfl (fun _ _ _ h=>h) hHeld ?_ ?_
    rotate_left
    ·intro wS hSw
     go_simp
     all_goals with_reducible rfl
    simp only[aput,List.set]
    refine tk (i:=5) (d:=23) (v:=?_) [6,8,9,12] rfl rfl (by decide +kernel) rfl (fun _ _ _ h=>h) hHeld ?_ ?_
    rotate_left
    ·intro wS hSw
     go_simp
     all_goals with_reducible rfl
    simp only[aput,List.set]
    refine tk (i:=6) (d:=24) (v:=?_) [8,9,12] rfl rfl (by decide +kernel) rfl (fun _ _ _ h=>h) hHeld ?_ ?_
    rotate_left
    ·intro wS hSw
     have u3:=cell_bel hSw P3.out
     have u4:=cell_bel hSw P4.out
     have q0:=cell_bel hSw Q0.out
     have q1:=cell_bel hSw Q1.out
     have q2:=cell_bel hSw Q2.out
     have q3:=cell_bel hSw Q3.out
     have q4:=cell_bel hSw Q4.out
     go_simp
     all_goals with_reducible rfl
    simp only[aput,List.set]
    refine tk (i:=7) (d:=25) (v:=?_) [8,9,12] rfl rfl (by decide +kernel) rfl (fun _ _ _ h=>h) hHeld ?_ ?_
    rotate_left
    ·intro wS hSw
     go_simp
     all_goals with_reducible rfl
    simp only[aput,List.set]
    refine tk (i:=8) (d:=26) (v:=?_) [9,12] rfl rfl (by decide +kernel) rfl (fun _ _ _ h=>h) hHeld ?_ ?_
    rotate_left
    ·intro wS hSw
     go_simp
     all_goals with_reducible rfl
    simp only[aput,List.set]
    refine tk (i:=9) (d:=27) (v:=?_) [12] rfl rfl (by decide +kernel) rfl (fun _ _ _ h=>h) hHeld ?_ ?_
    rotate_left
    ·intro wS hSw
     have u3:=cell_bel hSw P3.out
     have u4:=cell_bel hSw P4.out
     have q0:=cell_bel hSw Q0.out
     have q1:=cell_bel hSw Q1.out
     have q2:=cell_bel hSw Q2.out
     have q3:=cell_bel hSw Q3.out
     have q4:=cell_bel hSw Q4.out
     go_simp
     all_goals with_reducible rfl
    simp only[aput,List.set]
    repeat' (first
     | exact nl
     |(refine cns (i:=2) (o:=_) rfl (fun K hK=>?_) ?_
       go_simp
       refine hK.out _ _ (bel_trans hHeld (bel_alloc _ _)) (fun hHeld2=>?_)
       have SK:=hidI (rg_str hHeld KL.out)
       try rw[show (World.drew (World.alloc wr (.cells #[.int .i64 0,.int .i64 0,.string ⟨#[]⟩,.slice none 0 0,.slice none 0 0] 25))).heap.size=wr.heap.size+1 from rg_size _ _]at SK
       try replace NB:=hidI (box_belA (bel_alloc _ (.cells #[.string ⟨t.keys[k].toArray⟩] 9)) NB.out)
       clear hK K
       replace hHeld:=hHeld2
       clear hHeld2
       try simp only[Act.put,List.setIfInBounds_toArray,List.set_cons_zero,List.set_cons_succ])
     |(refine cns (i:=3) (o:=_) rfl (fun K hK=>?_) ?_
       go_simp
       refine(join_at _ (fun _=>True) [t.keys[k]] _ (by exact SK.out) KN.out KJ.out (GM.out _ hHeld)).mono ?_
       rintro e w3q ⟨rfl,hb5⟩
       unfold str
       refine hK.out _ _ (bel_trans hHeld hb5) (fun hHeld2=>?_)
       try replace NB:=hidI (box_belA hb5 NB.out)
       clear hb5 SK
       have CALLED:Hid True:=hidI trivial
       clear hK K
       replace hHeld:=hHeld2
       clear hHeld2
       try simp only[Act.put,List.setIfInBounds_toArray,List.set_cons_zero,List.set_cons_succ])
     |(refine cns (i:=10) (o:=_) rfl (fun K hK=>?_) ?_
       go_simp
       refine hK.out _ _ (bel_trans hHeld (bel_alloc _ _)) (fun hHeld2=>?_)
       have NB:=hidI (rg_box hHeld)
       first | (have c9:=CALLED.out;clear c9;have FINA:=hidI (rg_new hHeld (.int .i64 t.l[k].kind) (.int .i64 t.l[k].n) (.string ⟨t.l[k].s.toArray⟩) (.slice a5 t.l[k].keys.length c5) (.slice a6 t.l[k].l.length c6))) | skip
       try replace SK:=hidI (StrsAre.bel SK.out (bel_alloc _ (.cells #[.int .i64 0,.int .i64 0,.string ⟨#[]⟩,.slice none 0 0,.slice none 0 0] 25)))
       clear hK K
       replace hHeld:=hHeld2
       clear hHeld2
       try simp only[Act.put,List.setIfInBounds_toArray,List.set_cons_zero,List.set_cons_succ])
     |(refine lst (i:=12) (o:=_) (by decide +kernel) rfl (fun K hK=>?_)
       try rw[show (World.drew wr).heap.size=wr.heap.size from rfl]at NB
       try rw[show (World.drew (World.alloc wr (.cells #[.string ⟨t.keys[k].toArray⟩] 9))).heap.size=wr.heap.size+1 from rg_size _ _]at NB
       obtain⟨n0,n1,n2,n3,n4,m0,m1,m2,m3,m4⟩:=NB.out.1.c
       have FIN:=hidI (rg_fin hHeld NB.out (.int .i64 t.l[k].kind) (.int .i64 t.l[k].n) (.string ⟨t.l[k].s.toArray⟩) (.slice a5 t.l[k].keys.length c5) (.slice a6 t.l[k].l.length c6))
       go_simp
       refine hK.out _ _ ?_
       clear hK K
       try simp only[Act.put,List.setIfInBounds_toArray,List.set_cons_zero,List.set_cons_succ])
     |(refine tk (i:=4) (d:=22) (v:=?_) [11,12] rfl rfl (by decide +kernel) rfl (fun _ _ _ h=>h) (by exact hHeld) ?_ ?_
       rotate_left
       ·intro wS hSw
        go_simp
        all_goals with_reducible rfl
       simp only[aput,List.set])
     |(refine tk (i:=11) (d:=8) (v:=?_) [12] rfl rfl (by decide +kernel) rfl (fun _ _ _ h=>h) (by exact hHeld) ?_ ?_
       rotate_left
       ·intro wS hSw
        go_simp
        all_goals with_reducible rfl
       simp only[aput,List.set])
     | refine rdy [2,10] (by decide +kernel) ?_
     | refine rdy [3,10] (by decide +kernel) ?_
     | refine rdy [10] (by decide +kernel) ?_
     | refine rdy [3] (by decide +kernel) ?_
     | refine rdy [2] (by decide +kernel) ?_
     | fail)
    all_goals
     refine dn (by kernel_rfl) ?_
     go_wp2_with fail
     go_meet
     case rel=>first | exact⟨_,rfl,rfl,FINA.out⟩ | exact⟨_,rfl,rfl,FIN.out⟩
   case rest=>
    obtain⟨g9,rfl,rfl,hbx,hbl⟩:=hcut
    have BX:=hidI hbx
    have BC:=hidI hbl
    have HITC:=hidI (HIT.out.bel hbl)
    have GC:=hidI (I1.out.bel hbl)
    obtain⟨x0,x1,x2,x3,x4,-⟩:=hbx.c
    have PL:Hid ((at_++joinP [t.keys[k]]).length+130 * D<=100000):=hidI (by have:=KJL.out;have:=AT.out;rw[List.length_append];omega)
    have NX:Hid (∀ w',GatP wc w' gl r' (L++pathsU at_ (lvsU D t (k+1)))->GathI w gl r L D t at_ (some ⟨kb,ko,none⟩) (some ⟨lb,lo,none⟩) c1 c2 (k+1) w'):=hidI (fun w' hp=>gath_next GLT.out I2.out I3.out I4.out I5.out BC.out hp)
    have LBC:Hid (Below gl w wc):=hidI (LB.out.trans (BC.out.mono (Nat.le_trans (Nat.le_of_lt GLT.out) I2.out.size)))
    clear hbx hbl
    obtain⟨p,hp⟩:∃ p,at_++joinP [t.keys[k]]=p:=⟨_,rfl⟩
    rw[hp]at PL ⊢
    have HPP:=hidI hp
    clear hp
    by_cases hkd:t.l[k].kind=5/\t.l[k].l≠[]
    ·have e1:(t.l[k].kind == 5)=true:=by simp[hkd.1]
     have e2:(0:Int) < ((t.l[k].l.length:Nat):Int):=by have:=List.length_pos_iff.2 hkd.2;omega
     have e3:decide (0 < t.l[k].l.length)=true:=decide_eq_true (List.length_pos_iff.2 hkd.2)
     have CALL:=hidI (IH.out wc ok t.l[k] _ p gl (L++pathsU at_ (lvsU D t k)) r' HITC.out OK.out (GD.out.2 _ (List.getElem_mem _)) hkd.1 PL.out (by
      have h1:=UC.out
      have h2:=CT.out
      have h3:=CE.out
      have h4:=CNT.out
      rw[List.length_append,pathsU,List.length_map]
      omega) GC.out (fun W hW=>HM.out W (LBC.out.trans hW)))
     have UE:Hid (L++pathsU at_ (lvsU D t k)++pathsU p (lvs D t.l[k])=L++pathsU at_ (lvsU D t (k+1))):=hidI (by
      rw[US.out,if_pos hkd,<-HPP.out,<-pathsU_deep,List.append_assoc]
      simp[pathsU])
     clear hkd
     go_wp2_with (go_at_call 32;refine CALL.out.mono ?_;rintro e w5 ⟨rfl,hgp⟩;rw[UE.out]at hgp;have GP:=hidI (NX.out _ hgp);clear hgp)
     go_roundg (t.keys.length - (k+1))
     case measure=>rw[GK.out];omega
     case rel=>exact⟨k+1,hlt,rfl,by go_num,GP⟩
    ·obtain⟨sv,s1,s2,s3⟩:=GC.out
     have UE:Hid (L++pathsU at_ (lvsU D t k)++[p]=L++pathsU at_ (lvsU D t (k+1))):=hidI (by
      rw[US.out,if_neg hkd,<-HPP.out,List.append_assoc]
      simp[pathsU])
     obtain⟨LL,hLL⟩:∃ LL,L++pathsU at_ (lvsU D t k)=LL:=⟨_,rfl⟩
     have hn:LL.length<=1000000:=by
      have h1:=UC.out
      have h2:=CT.out
      have h3:=CE.out
      have h4:=CNT.out
      rw[<-hLL,List.length_append,pathsU,List.length_map]
      omega
     rw[hLL]at s2 UE
     have hglc:gl < wc.heap.size:=(Array.getElem?_eq_some_iff.1 s1).1
     obtain⟨g7,c7,W7,hR,ho7,hg7,hf7⟩:=run_pushS (W:=wc.alloc (.cells #[.string ⟨p.toArray⟩] 9)) (B:=gl+1) (v:=sv) (n:=LL.length) (cs:=LL.map fun s=>Value.string ⟨s.toArray⟩) (nb:=wc.heap.size) (k:=⟨p.toArray⟩) (own_same s2 fun g hg=>(bel_alloc _ _).block g (own_lt s2 hg).2) (heap_alloc_new _ _) hn (by have:=(bel_alloc wc (.cells #[.string ⟨p.toArray⟩] 9)).size;omega) 22
     have GP:=hidI (NX.out _ (by have h9:=gat_push s1 s3 (fun g hg=>(GC.out.row hg).1) ho7 hg7 hf7 hglc;rw[UE.out]at h9;exact h9))
     have HR:=hidI hR
     have c0:wc.cell? ⟨gl,0,none⟩=some sv:=by simp[World.cell?,s1]
     have c0a:∀ o,(wc.alloc o).cell? ⟨gl,0,none⟩=some sv:=fun o=>cell_bel (bel_alloc _ _) c0
     have hb7:W7.heap[gl]?=some (.cells #[sv] 22):=by
      rw[hg7.block gl (Nat.lt_of_lt_of_le hglc (bel_alloc wc _).size) (fun e=>by have:=(own_lt s2 e.symm).1;omega),(bel_alloc wc _).block gl hglc,s1]
     have c7a:W7.cell? ⟨gl,0,none⟩=some sv:=by simp[World.cell?,hb7]
     have c7f:W7.frozen? ⟨gl,0,none⟩=false:=by simp[World.frozen?,hb7]
     obtain⟨sa,sn,sc,hsv⟩:∃ sa sn sc,sv=.slice sa sn sc:=by
      rcases s2.2 with⟨h9,-⟩ | ⟨_,_,_,h9,-⟩
      ·exact⟨_,_,_,h9⟩
      ·exact⟨_,_,_,h9⟩
     subst hsv
     by_cases hk5:t.l[k].kind=5
     ·have e1:(t.l[k].kind == 5)=true:=by simp[hk5]
      have hl0:t.l[k].l=[]:=by
       apply Classical.byContradiction
       intro h9
       exact hkd ⟨hk5,h9⟩
      have e2:¬(0:Int) < ((t.l[k].l.length:Nat):Int):=by rw[hl0];simp
      have e3:decide (0 < t.l[k].l.length)=false:=by rw[hl0];simp
      clear hl0 hk5 hkd hR ho7 hg7 hf7 s1 s2 s3 hb7 hLL
      go_wp2_with (at_builtin;go_must (refine Lib.wpList_append_run _ rfl _ _ _ _ rfl (.slice sa sn sc) (.slice (some ⟨wc.heap.size,0,none⟩) 1 1) rfl rfl _ _ HR.out ?_);refine Hid.out ?_)
      refine hidI ?_
      go_wp2_with fail
      go_roundg (t.keys.length - (k+1))
      case measure=>rw[GK.out];omega
      case rel=>exact⟨k+1,hlt,rfl,by go_num,GP⟩
     ·have e1:(t.l[k].kind == 5)=false:=by rw[beq_eq_false_iff_ne];exact hk5
      clear hk5 hkd hR ho7 hg7 hf7 s1 s2 s3 hb7 hLL
      go_wp2_with (at_builtin;go_must (refine Lib.wpList_append_run _ rfl _ _ _ _ rfl (.slice sa sn sc) (.slice (some ⟨wc.heap.size,0,none⟩) 1 1) rfl rfl _ _ HR.out ?_);refine Hid.out ?_)
      refine hidI ?_
      go_wp2_with fail
      go_roundg (t.keys.length - (k+1))
      case measure=>rw[GK.out];omega
      case rel=>exact⟨k+1,hlt,rfl,by go_num,GP⟩
  ·have d1:¬(k:Int) < (t.keys.length:Int):=by omega
   have hke:k=t.keys.length:=by omega
   subst hke
   obtain⟨r',i1,i2,i3,i4,i5⟩:=I.out
   have R:Hid (GatP w wr gl r (L++pathsU at_ (lvs (D+1) t))):=hidI ⟨r',by rw[<-lvsU_end PR.out];exact i1,i2,i3⟩
   clear i1 i2 i3 i4 i5 I
   go_wp2_with fail
   go_end0
   exact⟨rfl,R.out⟩
end Go.Proofs.YtmdemcjmcnfjmaaGreatDoor
namespace Go.Proofs.YtmdemcjmcnfjmaaGreatDoor
open Go.RowKit
set_option maxRecDepth 100000 in
set_option maxHeartbeats 4000000 in
theorem goodPath_at (w:World) (p:List UInt8) (hp:p.length<=140737488351232) (hM:GlobM w) :
 Calls Tryz.prog 69 #[str p] w fun e w'=>e=.returned (.bool (gpB p))/\Below w.heap.size w w':=by
 have HM:=hidI hM
 clear hM
 have pe:((ByteArray.mk p.toArray) == (ByteArray.mk p.toArray))=true:=ba_eq rfl
 unfold str
 go_enter Tryz.func69,Tryz.ntmps69
 go_wp2_with fail
 refine(split_all _ p hp (by exact HM.out)).mono ?_
 rintro e w1 ⟨ns,ee,na,nc,rfl,hsp,hns,hb1⟩
 have nlen:=hns.1
 unfold maxLen at nlen
 have K:=hidI hns
 have B:=hidI hb1
 have R:Hid (gpB p=(decide (ee=0)&&!ns.isEmpty)):=hidI (by unfold gpB namesP;rw[hsp])
 clear hns hb1
 by_cases he:ee=0
 ·subst he
  obtain⟨h1,h2⟩:=split_len hsp
  have JN:Hid (∀ x∈ns,x.length<=10000000):=hidI (fun x hx=>by have:=join_mem_len hx;rw[h2]at this;omega)
  have JP:=hidI h2
  have JL:Hid ((joinP ns).length<=10000000):=hidI (by rw[h2];omega)
  clear h1 h2 hsp
  cases ns with
  | nil=>
   have RR:Hid (gpB p=false):=hidI (by rw[R.out];rfl)
   clear R
   go_wp2_with fail
   go_ret
   exact⟨by rw[RR.out];rfl,B.out⟩
  | cons x xs=>
   have RR:Hid (gpB p=true):=hidI (by rw[R.out];rfl)
   have g1:(0:Int) < (((x :: xs).length:Nat):Int):=by simp only[List.length_cons];omega
   obtain⟨L,hL⟩:∃ L,(x :: xs).length=L:=⟨_,rfl⟩
   rw[hL]at g1 nlen ⊢
   have K2:Hid (StrsAre w1 (fun k=>w.heap.size<=k) (x :: xs) (.slice na L nc)):=hidI (by rw[<-hL];exact K.out)
   clear hL K R
   go_wp2_with (go_at_call 17;refine(join_at _ _ (x :: xs) _ (by exact K2.out) (by exact JN.out) (by exact JL.out) (by exact HM.out.bel B.out)).mono ?_;rintro e w2 ⟨rfl,hb2⟩;rw[JP.out];unfold str;have B2:=hidI (bel_trans B.out hb2);clear hb2)
   go_ret
   exact⟨by rw[RR.out];first | done | rfl | simp,B2.out⟩
 ·have e1:(ee == 0)=false:=by rw[beq_eq_false_iff_ne];exact he
  have RR:Hid (gpB p=false):=hidI (by rw[R.out];simp[he])
  clear he hsp R
  go_wp2_with fail
  go_ret
  exact⟨by rw[RR.out];rfl,B.out⟩
end Go.Proofs.YtmdemcjmcnfjmaaGreatDoor
namespace Go.Proofs.YtmdemcjmcnfjmaaGreatDoor
open Go.RowKit
set_option maxRecDepth 100000 in
set_option maxHeartbeats 4000000 in
theorem goodPaths_at (w:World) (ok:Nat->Prop) (xs:List (List UInt8)) (v:Value) (h:StrsAre w ok xs v) (hP:∀ x∈xs,x.length<=140737488351232) (hM:GlobM w) :
 Calls Tryz.prog 35 #[v] w fun e w'=>e=.returned (.bool (gpsB xs))/\Below w.heap.size w w':=by
 obtain⟨a,c,rfl⟩:=h.form
 have H:=hidI h
 have HP:=hidI hP
 have HM:=hidI hM
 have ll:=h.1
 unfold maxLen at ll
 clear h hP hM
 go_enter Tryz.func35,Tryz.ntmps35
 go_wp2_with fail
 go_loopg [7] xs.length (fun gk i wr=>∃ k:Nat,k<=xs.length/\gk=xs.length - k/\i=.int .i64 k/\Hid ((xs.take k).all gpB=true/\risesB (xs.take k)=true)/\Hid (Below w.heap.size w wr))
 case atStart=>exact⟨0,Nat.zero_le _,rfl,rfl,⟨rfl,rfl⟩,Below.refl _ _⟩
 case round=>
  obtain⟨k,hk,hgk,rfl,AL,BL⟩:=hrel
  have GK:=hidI hgk
  clear hgk
  by_cases hlt:k < xs.length
  ·obtain⟨b,off,rfl,hc1,hc2,hcell0⟩:=strs_at H.out hlt
   unfold maxLen at hc2
   have hcell:=cell_bel BL.out hcell0
   have w2:(k:Int) < (xs.length:Int):=by omega
   have CALL:Hid (∀ W:World,Below w.heap.size w W->Calls Tryz.prog 69 #[.string ⟨xs[k].toArray⟩] W fun e w'=>e=.returned (.bool (gpB xs[k]))/\Below W.heap.size W w'):=hidI (fun W hW=>goodPath_at W xs[k] (HP.out _ (List.getElem_mem _)) (HM.out.bel hW))
   have PV:Hid (∀ j,k=j+1->w.cell? ⟨b,off+j,none⟩=some (.string ⟨xs[k - 1].toArray⟩)):=hidI (fun j hj=>by
    subst hj
    obtain⟨b',off',e,-,-,h9⟩:=strs_at H.out (k:=j) (by omega)
    cases e;exact h9)
   clear hcell0
   cases hpl:gpB xs[k] with
   | false=>
    have R:=hidI (gps_badP hlt hpl)
    have HPL:=hidI hpl
    clear hpl
    go_wp2_with (go_at_call 69;refine(CALL.out _ BL.out).mono ?_;rintro e w' ⟨rfl,hb⟩;rw[HPL.out];have BL2:=hidI (bel_trans BL.out hb);clear hb)
    go_ret
    exact⟨by rw[R.out];rfl,BL2.out⟩
   | true=>
    have HPL:=hidI hpl
    have AN:=hidI (all_take hlt AL.out.1 hpl)
    clear hpl
    cases k with
    | zero=>
     rw[Nat.add_zero]at hcell
     go_wp2_with (go_at_call 69;refine(CALL.out _ BL.out).mono ?_;rintro e w' ⟨rfl,hb⟩;rw[HPL.out];have BL2:=hidI (bel_trans BL.out hb);clear hb)
     go_roundg (xs.length - 1)
     case measure=>rw[GK.out];omega
     case rel=>exact⟨1,by omega,rfl,by go_num,⟨AN.out,rises_one xs⟩,BL2⟩
    | succ j=>
     have hpc:=cell_bel BL.out (PV.out j rfl)
     have j0:(0:Int) < ((j+1:Nat):Int):=by omega
     have RT:=hidI (rises_take hlt)
     simp only[Nat.add_sub_cancel]at hpc
     have hpcA:Hid (∀ W,Below w.heap.size w W->W.cell? ⟨b,off+j,none⟩=some (.string ⟨xs[j].toArray⟩)):=hidI (fun W hW=>by
      have:=cell_bel hW (PV.out j rfl);simpa only[Nat.add_sub_cancel] using this)
     clear hpc
     cases hbl:Op.bytesLess xs[j] xs[j+1] with
     | true=>
      have HBL:=hidI hbl
      go_wp2_with (go_at_call 69;refine(CALL.out _ BL.out).mono ?_;rintro e w' ⟨rfl,hb⟩;rw[HPL.out];have BL2:=hidI (bel_trans BL.out hb);have hpc:=hpcA.out _ BL2.out;clear hb)
      go_roundg (xs.length - (j+1+1))
      case measure=>rw[GK.out];omega
      case rel=>exact⟨j+1+1,by omega,rfl,by go_num,⟨AN.out,by rw[RT.out,AL.out.2,HBL.out];rfl⟩,BL2⟩
     | false=>
      have R:=hidI (gps_badR hlt hbl)
      go_wp2_with (go_at_call 69;refine(CALL.out _ BL.out).mono ?_;rintro e w' ⟨rfl,hb⟩;rw[HPL.out];have BL2:=hidI (bel_trans BL.out hb);have hpc:=hpcA.out _ BL2.out;clear hb)
      go_ret
      exact⟨by rw[R.out];rfl,BL2.out⟩
  ·have d1:¬(k:Int) < (xs.length:Int):=by omega
   have hke:k=xs.length:=by omega
   have AE:Hid (xs.all gpB=true/\risesB xs=true):=hidI (by have:=AL.out;rwa [hke,List.take_length]at this)
   clear hke
   cases xs with
   | nil=>
    go_wp2_with fail
    go_ret
    exact⟨rfl,BL.out⟩
   | cons x xs=>
    have R:Hid (gpsB (x :: xs)=true):=hidI (by simp only[gpsB,AE.out.1,AE.out.2];rfl)
    have g1:(0:Int) < (((x :: xs).length:Nat):Int):=by simp only[List.length_cons];omega
    have g2:decide (0 < (x :: xs).length)=true:=by simp
    obtain⟨L,hL⟩:∃ L,(x :: xs).length=L:=⟨_,rfl⟩
    rw[hL]at g1 g2 d1 ll ⊢
    clear hL
    go_wp2_with fail
    go_ret
    exact⟨by rw[R.out];first | done | rfl | simp,BL.out⟩
set_option maxRecDepth 100000 in
set_option maxHeartbeats 4000000 in
theorem goodObject_at (w:World) (ok:Nat->Prop) (t:V) (v:Value) (h:In w ok t v) :
 Calls Tryz.prog 19 #[v] w fun e w'=>e=.returned (.bool (decide (t.kind=5)&&goodV t))/\Below w.heap.size w w':=by
 have H:=hidI h
 obtain⟨a1,a2,c1,c2,rfl⟩:=h.form
 clear h
 by_cases hk:t.kind=5
 ·have e1:(t.kind == 5)=true:=by simp[hk]
  have R:Hid ((decide (t.kind=5)&&goodV t)=goodV t):=hidI (by simp[hk])
  clear hk
  go_enter Tryz.func19,Tryz.ntmps19
  go_wp2_with (go_at_call 13;refine(good_is _ ok t _ (by exact H.out.bel (bel_alloc _ _))).mono ?_;rintro e w1 ⟨rfl,hb⟩;have B:=hidI (bel_trans (bel_alloc _ _) hb);clear hb)
  go_ret
  exact⟨by rw[R.out];first | done | rfl | simp,B.out⟩
 ·have e1:(t.kind == 5)=false:=by rw[beq_eq_false_iff_ne];exact hk
  have R:Hid ((decide (t.kind=5)&&goodV t)=false):=hidI (by simp[hk])
  clear hk
  go_enter Tryz.func19,Tryz.ntmps19
  go_wp2_with fail
  go_ret
  exact⟨by rw[R.out];first | done | rfl | simp,bel_alloc _ _⟩
end Go.Proofs.YtmdemcjmcnfjmaaGreatDoor
namespace Go.Proofs.YtmdemcjmcnfjmaaGreatDoor
open Go.RowKit Go.Shelf Go.Sort
def encS (x:List UInt8):Value:=.string ⟨x.toArray⟩
theorem lt_cmp (x y:List UInt8):ltOf Lib.compareBytes x y=Op.bytesLess x y:=by
 unfold ltOf
 rw[Bool.eq_iff_iff,decide_eq_true_eq]
 exact cmp_lt x y
theorem swo_cmp:SWO (ltOf Lib.compareBytes) where
 irrefl x:=by rw[lt_cmp];exact less_irrefl x
 trans x y z h1 h2:=by rw[lt_cmp]at *;exact less_trans _ _ _ h1 h2
 ntrans x y z h1 h2:=by
  rw[lt_cmp]at *
  exact le_trans' (a:=z) (b:=y) (c:=x) h2 h1
theorem sorted_list {L:List (List UInt8)} {d:Array (List UInt8)} (hp:PermIn 0 L.length L.toArray d) (hs:SortedIn (ltOf Lib.compareBytes) 0 L.length d):d.toList=sortL L:=by
 obtain⟨h1,-,h2⟩:=hp
 have hsz:d.size=L.length:=by simpa using h1
 have e1:(d.extract 0 L.length)=d:=by rw[<-hsz];simp
 have e2:(L.toArray.extract 0 L.length)=L.toArray:=by
  have:L.length=L.toArray.size:=by simp
  rw[this];exact Array.extract_size
 rw[e1,e2]at h2
 refine sort_of (by simpa using h2) ?_
 rw[List.pairwise_iff_getElem]
 intro i j hi hj hij
 have hi':i < d.size:=by simpa using hi
 have hj':j < d.size:=by simpa using hj
 have:=hs i j (Nat.zero_le _) hij (by omega)
 rw[lt_cmp,getElem!_pos d j hj',getElem!_pos d i hi']at this
 simpa [LeB] using this
theorem sortWorld_block (W:World) (g m:Nat) (d:Array (List UInt8)) (os:Array Obj) (k:Nat) (hk:k < W.heap.size) (hne:k≠g):(sortWorld encS W g 0 m d os).heap[k]?=W.heap[k]?:=by
 change (W.heap.modify g (onCells (putCells encS 0 d))++os)[k]?=W.heap[k]?
 rw[Array.getElem?_append_left (by simpa using hk),Array.getElem?_modify,if_neg (fun e=>hne e.symm)]
theorem sortWorld_grows (W:World) (g m:Nat) (d:Array (List UInt8)) (os:Array Obj):W.grownBy (sortWorld encS W g 0 m d os) (some g):=by
 refine⟨rfl,rfl,rfl,?_,fun k hk hr=>sortWorld_block W g m d os k hk (fun e=>hr (by rw[e]))⟩
 change W.heap.size<=(W.heap.modify g (onCells (putCells encS 0 d))++os).size
 simp
theorem compare_enters:∀ args w,(callFunc 34 args).run Tryz.prog w=.ok (.enter 34 args) w:=enters_of Tryz.func34 (by kernel_rfl) rfl
theorem cmp_reads (blk off size:Nat) (w:World):CmpReads Tryz.prog 34 #[] encS Lib.compareBytes blk off size w:=fun m os dk _ x y=>by
 have:=Tryz.strCompare ⟨x.toArray⟩ ⟨y.toArray⟩ (sortWorld encS w blk off m dk os)
 simp only[List.toList_toArray]at this
 exact this.mono fun e w' h=>⟨h.1,0,h.2⟩
theorem sortS_at (W:World) (B:Nat) (L:List (List UInt8)) (sv:Value) (h:W.ownsRow B 9 1 sv L.length (L.map encS)) (hl:∀ x∈L,x.length<=maxLen) (hn:L.length < 4611686018427387904) :
 Calls Tryz.prog 33 #[sv,.func (.func 34) #[] #[]] W fun e w'=>e=.returned (.tuple #[])/\StrsAre w' (fun k=>B<=k) (sortL L) sv/\W.grownBy w' sv.ownBlock:=by
 rcases h.2 with⟨rfl,h0⟩ | ⟨g,cap,cur,rfl,h1,h2,h3,h4,h5,h6⟩
 ·have hL:L=[]:=List.length_eq_zero_iff.1 h0
  subst hL
  have hc:=AnyF.slices_SortFunc_none (P:=Tryz.prog) (ρ:=Tryz.laysSort_ren) { Tryz.laysSort with } none 0 (.func (.func 34) #[] #[]) W
  change Calls Tryz.prog 33 _ _ _ at hc
  exact hc.mono fun e w' h=>⟨h.1,⟨by simp[sortL,maxLen],.inl ⟨rfl,none,rfl⟩⟩,by rw[h.2];exact gb_refl _ _⟩
 ·have hblk:g < W.heap.size:=(Array.getElem?_eq_some_iff.1 h2).1
  have hcell:∀ j (hj:j < L.length),cur[j]?=some (encS L[j]):=fun j hj=>by
   have e:=congrArg (fun l=>l[j]?) h6
   simp only[Nat.mul_one,List.getElem?_take,List.getElem?_map,List.getElem?_eq_getElem hj,Option.map_some]at e
   rw[if_pos hj]at e
   simpa using e
  have hH:Holds encS W g 0 L.toArray:=fun j hj=>by
   have hj':j < L.length:=by simpa using hj
   rw[getElem!_pos L.toArray j hj]
   refine⟨?_,?_⟩
   ·simp[World.cell?,h2,hcell j hj']
   ·simp[World.frozen?,h2]
  have hc:=Any.slices_SortFunc Tryz.laysSort encS (fun _=>rfl) Lib.compareBytes swo_cmp 34 #[] g 0 cap L.toArray W compare_enters (cmp_reads g 0 L.toArray.size W).lays hH hblk (by simpa using hn)
  have hsz:L.toArray.size=L.length:=by simp
  rw[hsz]at hc
  change Calls Tryz.prog 33 _ _ _ at hc
  refine hc.mono ?_
  rintro e w' ⟨rfl,d,n,os,hp,hs,rfl⟩
  have hd:=sorted_list hp hs
  have hdl:d.size=L.length:=by have:=hp.1;simpa using this
  have hsl:(sortL L).length=L.length:=(sort_perm L).length_eq
  refine⟨rfl,⟨by rw[hsl];omega,.inr ⟨g,0,cap,by rw[hsl],by rw[hsl];exact h3,h4,fun i x hx=>?_⟩⟩,sortWorld_grows W g n d os⟩
  obtain⟨hi,rfl⟩:=List.getElem?_eq_some_iff.1 hx
  have hi2:i < d.size:=by rw[hdl,<-hsl];exact hi
  refine⟨hl _ ((sort_perm L).mem_iff.1 (List.getElem_mem hi)),h1,?_⟩
  have hA:Holds encS (Go.Sort.ahead W n) g 0 L.toArray:=hH
  have hcw:=cell?_putRow encS (Go.Sort.ahead W n) g 0 L.toArray d hA (by simpa using hdl) i hi2
  unfold sortWorld
  rw[cell?_grow _ _ _ (by rw[size_putRow];exact hblk),hcw,getElem!_pos d i hi2]
  have:d[i]=(sortL L)[i]:=by
   have:=congrArg (fun l=>l[i]?) hd
   simp only[List.getElem?_eq_getElem hi,Array.getElem?_toList]at this
   exact(Array.getElem?_eq_some_iff.1 this).2
  rw[this];rfl
theorem pathsU_leaves (D:Nat) (t:V):pathsU [] (lvs D t)=(lvs D t).map joinP:=by simp[pathsU]
set_option maxRecDepth 100000 in
set_option maxHeartbeats 4000000 in
theorem leaves_at (w:World) (ok:Nat->Prop) (t:V) (v:Value) (h:In w ok t v) (hM:GlobM w) :
 Calls Tryz.prog 11 #[v] w fun e w'=>∃ (a:Option Addr) (c:Nat),e=.returned (.slice a (leavesF t).length c)/\StrsAre w' (fun k=>w.heap.size<=k) (leavesF t) (.slice a (leavesF t).length c)/\Below w.heap.size w w':=by
 have H:=hidI h.low
 have HM:=hidI hM
 obtain⟨a1,a2,c1,c2,rfl⟩:=h.form
 clear h hM
 have B0:Hid (∀ o,Below w.heap.size w (w.alloc o)):=hidI (fun o=>bel_alloc _ _)
 by_cases hg:t.kind=5/\goodV t=true
 ·have e1:(decide (t.kind=5)&&goodV t)=true:=by simp[hg.1,hg.2]
  have LF:Hid (leavesF t=sortL ((lvs 12 t).map joinP)):=hidI (if_pos hg)
  have GT:=hidI (goodV_tree hg.2)
  have NC:=hidI (nice_cnt (nice_of hg.2))
  have K5:=hidI hg.1
  have GG:=hidI hg
  clear hg
  go_enter Tryz.func11,Tryz.ntmps11
  go_upto_region 3 with (go_at_call 19;refine(goodObject_at _ (fun k=>ok k/\k < w.heap.size) t _ (by exact H.out.bel (B0.out _))).mono ?_;rintro e w1 ⟨rfl,hb1⟩;rw[e1];have B1:=hidI (bel_trans (B0.out _) hb1);have PB:=hidI (box_bel hb1 (heap_alloc_new w _));clear hb1)
  have W2:Hid (Below w.heap.size w (w1.alloc (.cells #[.slice none 0 0] 22))):=hidI (bel_trans B1.out (bel_alloc _ _))
  have GI:Hid (GatI (w1.alloc (.cells #[.slice none 0 0] 22)) w1.heap.size [] none):=hidI ⟨.slice none 0 0,heap_alloc_new _ _,World.ownsRow_nil _ _ _ _,rfl⟩
  have LO:Hid (∀ k,(ok k/\k < w.heap.size)->k < w1.heap.size):=hidI (fun k hk=>by have:=B1.out.size;omega)
  have GMA:Hid (∀ W,Below w1.heap.size (w1.alloc (.cells #[.slice none 0 0] 22)) W->GlobM W):=hidI (fun W hW=>HM.out.bel (W2.out.trans (hW.mono B1.out.size)))
  have CALL:=hidI (gather_at 12 (w1.alloc (.cells #[.slice none 0 0] 22)) (fun k=>ok k/\k < w.heap.size) t _ [] w1.heap.size [] none (by exact H.out.bel W2.out) LO.out GT.out K5.out (by simp) (by have:=NC.out;simp;omega) GI.out GMA.out)
  obtain⟨q0,q1,q2,q3,q4,-⟩:=BoxIs.c (box_bel (bel_alloc w1 (.cells #[.slice none 0 0] 22)) PB.out)
  go_upto_region 5 with (go_at_call 32;refine CALL.out.mono ?_;rintro e w3 ⟨rfl,r3,hg3,hk3,hf3⟩;rw[List.nil_append,pathsU_leaves]at hg3;have G3:=hidI hg3;have L3:Hid (Below w1.heap.size (w1.alloc (.cells #[.slice none 0 0] 22)) w3):=hidI (hk3.low (by simp) (by intro g hg;cases hg));clear hg3 hk3 hf3 q0 q1 q2 q3 q4)
  obtain⟨sv,s1,s2,s3⟩:=G3.out
  have c0:w3.cell? ⟨w1.heap.size,0,none⟩=some sv:=by simp[World.cell?,s1]
  have SC:=hidI (sortS_at w3 (w1.heap.size+1) ((lvs 12 t).map joinP) sv s2 (fun x hx=>by
   obtain⟨ns,hn,rfl⟩:=List.mem_map.1 hx
   have:=lvs_len 12 t ns GT.out K5.out hn
   unfold maxLen;omega) (by
   have:=lvs_cnt 12 t
   have h9:=cnt_eq t
   have:=NC.out
   rw[List.length_map];omega))
  have S1:=hidI s1
  have S2:=hidI s2
  obtain⟨sa,sn,sc,hsv⟩:∃ sa sn sc,sv=.slice sa sn sc:=by
   rcases s2.2 with⟨h9,-⟩ | ⟨_,_,_,h9,-⟩
   ·exact⟨_,_,_,h9⟩
   ·exact⟨_,_,_,h9⟩
  subst hsv
  clear s1 s2 s3
  go_upto_region 6 with (go_at_call 33;refine SC.out.mono ?_;rintro e w4 ⟨rfl,hst,hgb⟩;have ST:=hidI hst;have GB:=hidI hgb;clear hst hgb)
  have c4:w4.cell? ⟨w1.heap.size,0,none⟩=some (.slice sa sn sc):=by
   have hlt:w1.heap.size < w3.heap.size:=(Array.getElem?_eq_some_iff.1 S1.out).1
   have:=GB.out.block w1.heap.size hlt (fun e=>by have:=(own_lt S2.out e.symm).1;omega)
   simp[World.cell?,this,S1.out]
  have BB:Hid (Below w.heap.size w w4):=hidI (by
   have h1:Below w1.heap.size w3 w4:=⟨GB.out.os,GB.out.tape,GB.out.output,GB.out.size,fun k hk=>by
    have hlt:w1.heap.size < w3.heap.size:=(Array.getElem?_eq_some_iff.1 S1.out).1
    exact GB.out.block k (by omega) (fun e=>by have:=(own_lt S2.out e.symm).1;omega)⟩
   exact(W2.out.trans (L3.out.mono B1.out.size)).trans (h1.mono B1.out.size))
  have SN:Hid (sn=(leavesF t).length):=hidI (by
   obtain⟨a9,c9,e9⟩:=ST.out.form
   simp only[Value.slice.injEq]at e9
   rw[LF.out];exact e9.2.1)
  have SZ:Hid (w.heap.size<=w1.heap.size):=hidI B1.out.size
  clear c0
  go_wp2_with fail
  go_ret
  refine⟨sa,sc,by rw[<-SN.out];rfl,?_,BB.out⟩
  rw[<-SN.out,LF.out]
  exact ST.out.imp fun a x h1 h2=>⟨Nat.le_trans SZ.out (Nat.le_of_succ_le h1),h2⟩
 ·have e1:(decide (t.kind=5)&&goodV t)=false:=by
   rw[Bool.and_eq_false_iff]
   by_cases h9:t.kind=5
   ·right;rw[Bool.eq_false_iff];exact fun h8=>hg ⟨h9,h8⟩
   ·left;exact decide_eq_false h9
  have LF:Hid (leavesF t=[]):=hidI (if_neg hg)
  clear hg
  go_enter Tryz.func11,Tryz.ntmps11
  go_wp2_with (go_at_call 19;refine(goodObject_at _ (fun k=>ok k/\k < w.heap.size) t _ (by exact H.out.bel (B0.out _))).mono ?_;rintro e w1 ⟨rfl,hb1⟩;rw[e1];have B1:=hidI (bel_trans (B0.out _) hb1);clear hb1)
  go_ret
  exact⟨none,0,by rw[LF.out];rfl,by rw[LF.out];exact⟨by simp,.inl ⟨rfl,none,rfl⟩⟩,B1.out⟩
end Go.Proofs.YtmdemcjmcnfjmaaGreatDoor
namespace Go.Proofs.YtmdemcjmcnfjmaaGreatDoor
open Go.RowKit
set_option maxRecDepth 100000 in
set_option maxHeartbeats 4000000 in
theorem named_at (w:World) (s:List UInt8) (hs:s.length<=9223372036854775807) :
 Calls Tryz.prog 20 #[str s] w fun e w'=>e=.returned (.bool (namedB s))/\w'=w:=by
 have bl:(ByteArray.mk s.toArray).size=s.length:=by simp[ByteArray.size]
 unfold str
 by_cases hsn:s=[]
 ·subst hsn
  have R:Hid (namedB []=false):=hidI rfl
  clear bl hs
  go_enter Tryz.func20,Tryz.ntmps20
  go_wp2_with fail
  go_ret
  exact⟨by rw[R.out];first | done | rfl,rfl⟩
 ·have hne:s.isEmpty=false:=by cases s with | nil=>exact absurd rfl hsn | cons c r=>rfl
  have hne2:(s == [])=false:=by cases s with | nil=>exact absurd rfl hsn | cons c r=>rfl
  have NE:=hidI hne
  clear hsn
  by_cases h12:s.length<=12
  ·have g12:¬(12:Int) < (s.length:Int):=by omega
   have g13:decide (12 < s.length)=false:=decide_eq_false (by omega)
   have H12:=hidI h12
   go_enter Tryz.func20,Tryz.ntmps20
   go_wp2_with fail
   go_loopg [3] s.length (fun gk iv wr=>∃ k:Nat,k<=s.length/\gk=s.length - k/\iv=.int .i64 k/\Hid ((s.take k).all lowB=true)/\wr=w)
   case atStart=>exact⟨0,Nat.zero_le _,rfl,rfl,hidI rfl,rfl⟩
   case round=>
    obtain⟨k,hk,hgk,rfl,AL,hw⟩:=hrel
    have hw':=hw.symm
    subst hw'
    have GK:=hidI hgk
    clear hgk hw
    by_cases hlt:k < s.length
    ·have hszm:k < (ByteArray.mk s.toArray).size:=by rw[bl];exact hlt
     have hgetm:(ByteArray.mk s.toArray)[k]=s[k]:=rfl
     have v1:(0:Int)<=(k:Int):=by omega
     have v2:(k:Int) < (s.length:Int):=by omega
     have TK:Hid ((s.take (k+1)).all lowB=(true&&lowB s[k])):=hidI (by rw[List.take_succ_eq_append_getElem hlt,List.all_append,AL.out];simp)
     have SK:Hid (lowB s[k]=false->namedB s=false):=hidI (fun h=>by
      unfold namedB
      have:s.all lowB=false:=by rw[List.all_eq_false];exact⟨s[k],List.getElem_mem hlt,by rw[h];simp⟩
      rw[this];simp)
     obtain⟨c,hc⟩:∃ c,s[k]=c:=⟨_,rfl⟩
     rw[hc]at hgetm TK SK
     have hc256:(c.toNat:Int) < 256:=by have:=c.toNat_lt;omega
     clear hc
     by_cases hlo:c.toNat < 97
     ·have e1:(c.toNat:Int) < 97:=by omega
      have R:=hidI (SK.out (by simp[lowB];omega))
      go_wp2_with fail
      go_ret
      exact⟨by rw[R.out];first | done | rfl,rfl⟩
     ·have e1:¬(c.toNat:Int) < 97:=by omega
      by_cases hhi:122 < c.toNat
      ·have e2:(122:Int) < (c.toNat:Int):=by omega
       have R:=hidI (SK.out (by simp[lowB];omega))
       go_wp2_with fail
       go_ret
       exact⟨by rw[R.out];first | done | rfl,rfl⟩
      ·have e2:¬(122:Int) < (c.toNat:Int):=by omega
       have NX:Hid ((s.take (k+1)).all lowB=true):=hidI (by rw[TK.out];simp[lowB];omega)
       go_wp2_with fail
       go_roundg (s.length - (k+1))
       case measure=>rw[GK.out];omega
       case rel=>exact⟨k+1,by omega,rfl,by go_num,NX,rfl⟩
    ·have d1:¬(k:Int) < (s.length:Int):=by omega
     have R:Hid (namedB s=true):=hidI (by
      have h9:=AL.out
      rw[List.take_of_length_le (by omega)]at h9
      simp[namedB,NE.out,H12.out,h9])
     go_wp2_with fail
     go_ret
     exact⟨by rw[R.out];first | done | rfl,rfl⟩
  ·have g12:(12:Int) < (s.length:Int):=by omega
   have g13:decide (12 < s.length)=true:=decide_eq_true (by omega)
   have R:Hid (namedB s=false):=hidI (by simp[namedB,h12])
   go_enter Tryz.func20,Tryz.ntmps20
   go_wp2_with fail
   go_ret
   exact⟨by rw[R.out];first | done | rfl,rfl⟩
end Go.Proofs.YtmdemcjmcnfjmaaGreatDoor
namespace Go.Proofs.YtmdemcjmcnfjmaaGreatDoor
open Go.RowKit
structure BelW (w:World) where
 W:World
 h:Below w.heap.size w W
theorem wp_region_below {P:Program} {id:Nat} {Q:Exit->Act->World->Prop} {a:Act} {w:World} {l:List Oper} (hm:P.follows .mixedOrders=true) (hB:Region.lexB .any l.toArray=true)
 (h:wpQuiet P l.toArray (fun w'=>∃ p:BelW w,w'=p.W) (fun a'=>∀ w',(∃ p:BelW w,w'=p.W)->Q .normal a' w') l a):(Code.region id l.toArray true).wp P Q a w:=
 wp_region_quiet (C:=fun w'=>∃ p:BelW w,w'=p.W) hm hB ⟨⟨w.drew,(Below.refl _ w).drew⟩,rfl⟩ (by simpa using h)
theorem cell_belW {w:World} {a:Addr} {v:Value} (h:w.cell? a=some v) (p:BelW w):p.W.cell? a=some v:=cell_bel p.h h
theorem Calls.belW {P:Program} {f:FuncId} {args:Array Value} {w:World} {p:BelW w} {v:Value}
 (h:Calls P f args p.W fun e w'=>e=.returned v/\Below p.W.heap.size p.W w'):Calls P f args p.W fun e w''=>e=.returned v/\∃ q:BelW w,w''=q.W:=
 h.mono fun _ w' ⟨he,hq⟩=>⟨he,⟨w',bel_trans p.h hq⟩,rfl⟩
end Go.Proofs.YtmdemcjmcnfjmaaGreatDoor
namespace Go.Proofs.YtmdemcjmcnfjmaaGreatDoor
open Go.RowKit
theorem goodOs_long {xs:List Own} (h:6 < xs.length):goodOs xs=false:=by
 have:decide (xs.length<=6)=false:=decide_eq_false (by omega)
 simp[goodOs,this]
theorem goodOs_bad {xs:List Own} {k:Nat} (hk:k < xs.length) (h:ownB xs[k]=false):goodOs xs=false:=by
 have:xs.all ownB=false:=by rw[List.all_eq_false];exact⟨xs[k],List.getElem_mem _,by simp[h]⟩
 simp[goodOs,this]
theorem goodOs_badR {xs:List Own} {j:Nat} (hj:j+1 < xs.length) (h:Op.bytesLess xs[j].name xs[j+1].name=false):goodOs xs=false:=by
 have:risesB (xs.map Own.name)=false:=rises_bad (j:=j) (by simpa using hj) (by simpa using h)
 simp[goodOs,this]
theorem goodOs_end {xs:List Own} (h:xs.length<=6) (h1:xs.all ownB=true) (h2:risesB (xs.map Own.name)=true):goodOs xs=true:=by
 unfold goodOs;rw[decide_eq_true h,h1,h2];rfl
theorem names_take {xs:List Own} {j:Nat} (h:j+1 < xs.length):risesB ((xs.take (j+2)).map Own.name)=(risesB ((xs.take (j+1)).map Own.name)&&Op.bytesLess xs[j].name xs[j+1].name):=by
 have:=rises_take (xs:=xs.map Own.name) (j:=j) (by simpa using h)
 simpa only[List.map_take,List.getElem_map] using this
theorem names_one (xs:List Own):risesB ((xs.take 1).map Own.name)=true:=by rw[List.map_take];exact rises_one _
set_option maxRecDepth 100000 in
set_option maxHeartbeats 4000000 in
theorem goodOwners_at (w:World) (ok:Nat->Prop) (xs:List Own) (v:Value) (h:OwnsAre w ok xs v) (hP:∀ o∈xs,∀ x∈o.paths,x.length<=140737488351232) (hM:GlobM w) :
 Calls Tryz.prog 12 #[v] w fun e w'=>e=.returned (.bool (goodOs xs))/\Below w.heap.size w w':=by
 obtain⟨a,c,rfl⟩:=h.form
 have H:=hidI h
 have HP:=hidI hP
 have HM:=hidI hM
 have ll:=h.1
 unfold maxLen at ll
 clear h hP hM
 by_cases h6:6 < xs.length
 ·have R:=hidI (goodOs_long h6)
  have g1:(6:Int) < (xs.length:Int):=by omega
  have g2:decide (6 < xs.length)=true:=decide_eq_true h6
  go_enter Tryz.func12,Tryz.ntmps12
  go_wp2_with fail
  go_ret
  exact⟨by rw[R.out];rfl,Below.refl _ _⟩
 have g1:¬(6:Int) < (xs.length:Int):=by omega
 have g2:decide (6 < xs.length)=false:=decide_eq_false h6
 have L6:Hid (xs.length<=6):=hidI (by omega)
 clear h6
 go_enter Tryz.func12,Tryz.ntmps12
 go_wp2_with fail
 go_loopg [10] xs.length (fun gk i wr=>∃ k:Nat,k<=xs.length/\gk=xs.length - k/\i=.int .i64 k/\Hid ((xs.take k).all ownB=true/\risesB ((xs.take k).map Own.name)=true)/\Hid (Below w.heap.size w wr))
 case atStart=>exact⟨0,Nat.zero_le _,rfl,rfl,⟨rfl,rfl⟩,Below.refl _ _⟩
 case round=>
  obtain⟨k,hk,hgk,rfl,AL,BL⟩:=hrel
  have GK:=hidI hgk
  clear hgk
  by_cases hlt:k < xs.length
  ·obtain⟨b,off,pa,pc,rfl,hc1,hc2,hn0,hp0,hst,hnl⟩:=H.out.at hlt
   have hn:=cell_bel BL.out hn0
   have hp:=cell_bel BL.out hp0
   have w2:(k:Int) < (xs.length:Int):=by omega
   have ST:=hidI hst
   have HPK:=hidI (HP.out xs[k] (List.getElem_mem _))
   have PV:Hid (∀ j,k=j+1->w.cell? ⟨b,off+j * 2,none⟩=some (.string ⟨xs[k - 1].name.toArray⟩)):=hidI (fun j hj=>by
    subst hj
    obtain⟨b',off',_,_,e,-,-,h9,-⟩:=H.out.at (k:=j) (by omega)
    cases e;exact h9)
   have OB:Hid (ownB xs[k]=(namedB xs[k].name&&gpsB xs[k].paths)):=hidI rfl
   have AT:Hid (ownB xs[k]=true->(xs.take (k+1)).all ownB=true):=hidI (fun h9=>all_take hlt AL.out.1 h9)
   have BD:Hid (ownB xs[k]=false->goodOs xs=false):=hidI (fun h9=>goodOs_bad hlt h9)
   have RT:Hid (∀ j (hj:k=j+1),risesB ((xs.take (k+1)).map Own.name)=(risesB ((xs.take k).map Own.name)&&Op.bytesLess xs[k - 1].name xs[k].name)/\(Op.bytesLess xs[k - 1].name xs[k].name=false->goodOs xs=false)):=hidI (fun j hj=>by
    subst hj
    exact⟨names_take hlt,fun h9=>goodOs_badR hlt h9⟩)
   clear hn0 hp0 hst
   obtain⟨nm,hnm⟩:∃ nm,xs[k].name=nm:=⟨_,rfl⟩
   obtain⟨ps,hps⟩:∃ ps,xs[k].paths=ps:=⟨_,rfl⟩
   rw[hps]at hp ST HPK OB
   rw[hnm]at hn hnl OB RT
   obtain⟨W5,hW5⟩:∃ W,W=wr.alloc (.cells #[.string ⟨nm.toArray⟩,.slice pa ps.length pc] 41):=⟨_,rfl⟩
   have B5:Hid (Below w.heap.size w W5):=hidI (by rw[hW5];exact bel_trans BL.out (bel_alloc _ _))
   have s0:∀ p:BelW W5,p.W.cell? ⟨wr.heap.size,0,none⟩=some (.string ⟨nm.toArray⟩):=cell_belW (by rw[hW5];exact(box2 (heap_alloc_new _ _)).1)
   have s1:∀ p:BelW W5,p.W.cell? ⟨wr.heap.size,1,none⟩=some (.slice pa ps.length pc):=cell_belW (by rw[hW5];exact(box2 (heap_alloc_new _ _)).2)
   have NM:Hid (∀ (o:Bool),namedB nm=o->∀ p:BelW W5,Calls Tryz.prog 20 #[.string ⟨nm.toArray⟩] p.W fun e w''=>e=.returned (.bool o)/\∃ q:BelW W5,w''=q.W):=hidI (fun o ho p=>Calls.belW ((named_at p.W nm hnl).mono fun e w4 h9=>⟨by rw[<-ho];exact h9.1,by rw[h9.2];exact Below.refl _ _⟩))
   have GP:Hid (∀ (o:Bool),gpsB ps=o->∀ p:BelW W5,Calls Tryz.prog 35 #[.slice pa ps.length pc] p.W fun e w''=>e=.returned (.bool o)/\∃ q:BelW W5,w''=q.W):=hidI (fun o ho p=>Calls.belW ((goodPaths_at p.W ok ps _ ((ST.out.bel B5.out).bel p.h) HPK.out (HM.out.bel (bel_trans B5.out p.h))).mono fun e w4 h9=>⟨by rw[<-ho];exact h9.1,h9.2⟩))
   have hmix:Tryz.prog.follows .mixedOrders=true:=by kernel_rfl
   have HW:=hidI hW5
   have hne:Nonempty (BelW W5):=⟨⟨W5,Below.refl _ _⟩⟩
   clear hnm hps hW5
   cases hna:namedB nm with
   | false=>
    have NM2:=hidI (NM.out false hna)
    have R:=hidI (BD.out (by rw[OB.out,hna];rfl))
    clear hna
    go_wp2_with fail
    rw[<-HW.out]
    refine wp_region_below (by assumption) (by kernel_rfl) ?_
    repeat(first | go_big_quiet_step ((go_at_call 20;exact NM2.out _)) | quiet_step ((go_at_call 20;exact NM2.out _)))
    refine wpQuiet_nil ?_
    intro _ hw'
    obtain⟨pq,hw''⟩:=hw'
    subst hw''
    go_wp2_with fail
    go_ret
    exact⟨by rw[R.out];rfl,bel_trans B5.out pq.h⟩
   | true=>
    have NM2:=hidI (NM.out true hna)
    have NA:=hidI hna
    clear hna
    cases k with
    | zero=>
     rw[Nat.zero_mul,Nat.add_zero]at hn hp
     cases hg:gpsB ps with
     | false=>
      have GP2:=hidI (GP.out false hg)
      have R:=hidI (BD.out (by rw[OB.out,NA.out,hg];rfl))
      clear hg
      go_wp2_with fail
      rw[<-HW.out]
      refine wp_region_below (by assumption) (by kernel_rfl) ?_
      repeat(first | go_big_quiet_step ((first | (go_at_call 20;exact NM2.out _) | (go_at_call 35;exact GP2.out _))) | quiet_step ((first | (go_at_call 20;exact NM2.out _) | (go_at_call 35;exact GP2.out _))))
      refine wpQuiet_nil ?_
      intro _ hw'
      obtain⟨pq,hw''⟩:=hw'
      subst hw''
      go_wp2_with fail
      go_ret
      exact⟨by rw[R.out];rfl,bel_trans B5.out pq.h⟩
     | true=>
      have GP2:=hidI (GP.out true hg)
      have A2:=hidI (AT.out (by rw[OB.out,NA.out,hg];rfl))
      clear hg
      go_wp2_with fail
      rw[<-HW.out]
      refine wp_region_below (by assumption) (by kernel_rfl) ?_
      repeat(first | go_big_quiet_step ((first | (go_at_call 20;exact NM2.out _) | (go_at_call 35;exact GP2.out _))) | quiet_step ((first | (go_at_call 20;exact NM2.out _) | (go_at_call 35;exact GP2.out _))))
      refine wpQuiet_nil ?_
      intro _ hw'
      obtain⟨pq,hw''⟩:=hw'
      subst hw''
      go_wp2_with fail
      go_roundg (xs.length - 1)
      case measure=>rw[GK.out];omega
      case rel=>exact⟨1,by omega,rfl,by go_num,⟨A2.out,names_one xs⟩,bel_trans B5.out pq.h⟩
    | succ j=>
     have j0:(0:Int) < ((j+1:Nat):Int):=by omega
     have s2:∀ p:BelW W5,p.W.cell? ⟨b,off+j * 2,none⟩=some (.string ⟨xs[j].name.toArray⟩):=cell_belW (by have:=cell_bel B5.out (PV.out j rfl);simpa only[Nat.add_sub_cancel] using this)
     obtain⟨RT1,RT2⟩:=RT.out j rfl
     simp only[Nat.add_sub_cancel]at RT1 RT2
     obtain⟨nj,hnj⟩:∃ nj,xs[j].name=nj:=⟨_,rfl⟩
     rw[hnj]at s2 RT1 RT2
     have RTA:=hidI RT1
     have RTB:=hidI RT2
     clear hnj RT1 RT2
     cases hbl:Op.bytesLess nj nm with
     | false=>
      have R:=hidI (RTB.out hbl)
      go_wp2_with fail
      rw[<-HW.out]
      refine wp_region_below (by assumption) (by kernel_rfl) ?_
      repeat(first | go_big_quiet_step ((go_at_call 20;exact NM2.out _)) | quiet_step ((go_at_call 20;exact NM2.out _)))
      refine wpQuiet_nil ?_
      intro _ hw'
      obtain⟨pq,hw''⟩:=hw'
      subst hw''
      go_wp2_with fail
      go_ret
      exact⟨by rw[R.out];rfl,bel_trans B5.out pq.h⟩
     | true=>
      cases hg:gpsB ps with
      | false=>
       have GP2:=hidI (GP.out false hg)
       have R:=hidI (BD.out (by rw[OB.out,NA.out,hg];rfl))
       clear hg
       go_wp2_with fail
       rw[<-HW.out]
       refine wp_region_below (by assumption) (by kernel_rfl) ?_
       repeat(first | go_big_quiet_step ((first | (go_at_call 20;exact NM2.out _) | (go_at_call 35;exact GP2.out _))) | quiet_step ((first | (go_at_call 20;exact NM2.out _) | (go_at_call 35;exact GP2.out _))))
       refine wpQuiet_nil ?_
       intro _ hw'
       obtain⟨pq,hw''⟩:=hw'
       subst hw''
       go_wp2_with fail
       go_ret
       exact⟨by rw[R.out];rfl,bel_trans B5.out pq.h⟩
      | true=>
       have GP2:=hidI (GP.out true hg)
       have A2:=hidI (AT.out (by rw[OB.out,NA.out,hg];rfl))
       have HBL:=hidI hbl
       clear hg
       go_wp2_with fail
       rw[<-HW.out]
       refine wp_region_below (by assumption) (by kernel_rfl) ?_
       repeat(first | go_big_quiet_step ((first | (go_at_call 20;exact NM2.out _) | (go_at_call 35;exact GP2.out _))) | quiet_step ((first | (go_at_call 20;exact NM2.out _) | (go_at_call 35;exact GP2.out _))))
       refine wpQuiet_nil ?_
       intro _ hw'
       obtain⟨pq,hw''⟩:=hw'
       subst hw''
       go_wp2_with fail
       go_roundg (xs.length - (j+1+1))
       case measure=>rw[GK.out];omega
       case rel=>exact⟨j+1+1,by omega,rfl,by go_num,⟨A2.out,by rw[RTA.out,AL.out.2,HBL.out];rfl⟩,bel_trans B5.out pq.h⟩
  ·have d1:¬(k:Int) < (xs.length:Int):=by omega
   have hke:k=xs.length:=by omega
   have R:Hid (goodOs xs=true):=hidI (by have:=AL.out;rw[hke,List.take_length]at this;exact goodOs_end L6.out this.1 this.2)
   clear hke
   go_wp2_with fail
   go_ret
   exact⟨by rw[R.out];rfl,BL.out⟩
end Go.Proofs.YtmdemcjmcnfjmaaGreatDoor
