import Derived.Deep.RegionHeld3
set_option maxRecDepth 100000
set_option maxHeartbeats 40000000
set_option linter.unusedSimpArgs false
set_option linter.unusedVariables false
namespace Go.Proofs.YtbdlfclnkpofaaaGreatDoor
variable {w:World}
variable {v:Value}
variable {i:Nat}
section
open Go
section
variable {P:Program} {ops:Array Oper} {Q:Exit->Act->World->Prop} {md:Region.Mode} {S:World->Prop} {T:List Nat}
def fj (T:List Nat) (listed:Array Bool):Bool:=T.all fun t=>listed.getD t true == false
def ey (P:Program) (md:Region.Mode) (ops:Array Oper) (Q:Exit->Act->World->Prop) (S:World->Prop) (T:List Nat):Nat->Array Bool->Act->World->Prop
 | 0,listed,a,w=>Region.ready md ops listed=[]/\Q .normal a w
 | fuel+1,listed,a,w=>
  (Region.ready md ops listed=[]->Q .normal a w) /\
  ∀ i∈Region.ready md ops listed,wpOp P ops Q i (fun a' w'=>(fj T (listed.setIfInBounds i true)=true->S w')/\ey P md ops Q S T fuel (listed.setIfInBounds i true) a' w') a w
theorem qu:∀ (fuel:Nat) (listed:Array Bool) (a:Act) (w:World),ey P md ops Q S T fuel listed a w->wpAny P md ops Q fuel listed a w
 | 0,_,_,_,h=>h
 | fuel+1,_,_,_,h=>⟨h.1,fun i hi=>wpOp_mono (fun a' w' h'=>qu fuel _ a' w' h'.2) (h.2 i hi)⟩
def tJ (md:Region.Mode) (ops:Array Oper) (listed:Array Bool) (i:Nat) (T D:List Nat):Bool:=
 (D.all fun d=>(match ops[d]? with | some o=>o.after.any fun e=>Region.binds md e&&(e.on == i || D.contains e.on) | none=>false)&&listed.getD d true == false)&&T.all fun t=>D.contains t
theorem qk{listed:Array Bool}{D:List Nat}(hD:∀ d∈D,(∃ o,ops[d]?=some o/\∃ e∈o.after,Region.binds md e=true/\(e.on=i\/e.on∈D))/\listed.getD d true=false)(hi:listed.getD i true=false){j:Nat}(hj:j∈Region.ready md ops listed):j ∉ D:=by
 intro hjD;obtain⟨⟨o,ho,e,he,hb,hon⟩,-⟩:=hD j hjD;obtain⟨-,oj,hoj,hall⟩:=mem_ready.1 hj;rw[ho]at hoj;cases hoj;have h1:=hall e he hb;have h0:listed.getD e.on true=false:=by
  rcases hon with h | h
  ·rw[h];exact hi
  ·exact(hD _ h).2
 rcases Nat.lt_or_ge e.on listed.size with h' | h'
 ·simp[h']at h0 h1;rw[h0]at h1;cases h1
 ·simp[Array.getElem?_eq_none h']at h1
theorem Ee{listed:Array Bool}{T D:List Nat}(hT:∀ t∈T,t∈D)(hD:∀ d∈D,listed.getD d true=false)(hi:i ∉ D):fj T (listed.setIfInBounds i true)=true:=by
 unfold fj;rw[List.all_eq_true];intro t ht;have:i≠t:=fun e=>hi (e ▸ hT t ht);rw[getD_set_ne true this,hD t (hT t ht)];rfl
theorem tz{oi:Oper}{D:List Nat}(hi:ops[i]?=some oi)(hsel:∀ (j:Nat) (o:Oper) cs b,ops[j]?=some o->o.op≠.select cs b)(hQ:∀ c a w,Q (.panic c) (a.put oi.dst v) w->Q (.panic c) a w)(hTD:∀ t∈T,t∈D):∀ (fuel:Nat) (listed:Array Bool) (a:Act) (w:World),
 (∀ j oj,ops[j]?=some oj->j≠i->listed.getD j true=false->(∀ e∈oj.after,Region.binds md e=true->e.on≠i)->oi.apart ops oj=true) ->
 (∀ d∈D,(∃ o,ops[d]?=some o/\∃ e∈o.after,Region.binds md e=true/\(e.on=i\/e.on∈D))/\listed.getD d true=false) ->
 i∈Region.ready md ops listed->YieldsIf P ops S oi v a->S w ->
 ey P md ops Q S T fuel (listed.setIfInBounds i true) (a.put oi.dst v) w->ey P md ops Q S T (fuel+1) listed a w:=by
 intro fuel;induction fuel with
 | zero=>
  intro listed a w _ hD hr hy hS H;refine⟨fun h=>(by rw[h]at hr;cases hr),fun j hj=>?_⟩;by_cases hji:j=i
  ·subst hji;exact hy.wpOp hi hS ⟨fun _=>hS,H⟩
  ·have:=ready_mono hj hji;rw[H.1]at this;cases this
 | succ fuel ih=>
  intro listed a w hfree hD hr hy hS H;have hi0:listed.getD i true=false:=by
   obtain⟨h0,-⟩:=mem_ready.1 hr;exact h0
  refine⟨fun h=>(by rw[h]at hr;cases hr),fun j hj=>?_⟩;by_cases hji:j=i
  ·subst hji;exact hy.wpOp hi hS ⟨fun _=>hS,H⟩
  ·have h1:=H.2 j (ready_mono hj hji);obtain⟨hjun,oj,hoj,hall⟩:=mem_ready.1 hj;have hnot:∀ e∈oj.after,Region.binds md e=true->e.on≠i:=fun e he hb heq=>by
    have h1:=hall e he hb;have h0:=(mem_ready.1 hr).1;rw[heq]at h1;rcases Nat.lt_or_ge i listed.size with h' | h'
    ·simp[h']at h0 h1;rw[h0]at h1;cases h1
    ·simp[Array.getElem?_eq_none h']at h1
   have hjD:j ∉ D:=qk hD hi0 hj;have hiD:i ∉ D:=qk hD hi0 hr;have h2:=wpOp_putIf hoj (hfree j oj hoj hji hjun hnot) (fun cs b=>hsel i oi cs b hi) (fun cs b=>hsel j oj cs b hoj) hQ hy h1;have hfree':∀ k ok,ops[k]?=some ok->k≠i->(listed.setIfInBounds j true).getD k true=false ->
    (∀ e∈ok.after,Region.binds md e=true->e.on≠i)->oi.apart ops ok=true:=fun k ok hk hki hun hno=>by
    refine hfree k ok hk hki ?_ hno;by_cases hjk:j=k
    ·subst hjk;exact hjun
    ·rw[getD_set_ne true hjk]at hun;exact hun
   have hD':∀ d∈D,(∃ o,ops[d]?=some o/\∃ e∈o.after,Region.binds md e=true/\(e.on=i\/e.on∈D))/\(listed.setIfInBounds j true).getD d true=false:=fun d hd=>by
    refine⟨(hD d hd).1,?_⟩;have:j≠d:=fun e=>hjD (e ▸ hd);rw[getD_set_ne true this];exact(hD d hd).2
   have hu:fj T (((listed.setIfInBounds i true)).setIfInBounds j true)=true:=Ee hTD (fun d hd=>by
    have:i≠d:=fun e=>hiD (e ▸ hd);rw[getD_set_ne true this];exact(hD d hd).2) hjD
   refine wpOp_mono (fun a' w' h3=>⟨fun _=>h3.2.1 hu,ih (listed.setIfInBounds j true) a' w' hfree' hD' (ready_mono hr (Ne.symm hji)) h3.1 (h3.2.1 hu) ?_⟩) h2;rw[Array.setIfInBounds_comm _ _ hji];exact h3.2.2
theorem ay{oi:Oper}{fuel:Nat}{listed:Array Bool}{a:Act}(D:List Nat)(hi:ops[i]?=some oi)(hs:Region.noSelect ops=true)(hf:Region.free md ops listed i=true)(hr:(Region.ready md ops listed).contains i=true)(hB:tJ md ops listed i T D=true)(hQ:∀ c a w,Q (.panic c) (a.put oi.dst v) w->Q (.panic c) a w)(hy:YieldsIf P ops S oi v a)(hS:S w)(h:ey P md ops Q S T fuel (listed.setIfInBounds i true) (a.put oi.dst v) w):ey P md ops Q S T (fuel+1) listed a w:=by
 unfold tJ at hB;rw[Bool.and_eq_true,List.all_eq_true,List.all_eq_true]at hB;refine tz (D:=D) hi (Region.noSelect_spec hs) hQ (fun t ht=>by simpa using hB.2 t ht) fuel listed a w (Region.free_spec hi hf) (fun d hd=>?_) (by simpa using hr) hy hS h;have h1:=hB.1 d hd;rw[Bool.and_eq_true]at h1;refine⟨?_,by simpa using h1.2⟩;cases ho:ops[d]? with
 | none=>rw[ho]at h1;simp at h1
 | some o=>
  rw[ho]at h1;have h2:=h1.1;simp only[Array.any_eq_true]at h2;obtain⟨k,hk,h3⟩:=h2;refine⟨o,rfl,o.after[k],Array.getElem_mem hk,?_⟩;simpa using h3
def ct (P:Program) (md:Region.Mode) (ops:Array Oper) (Q:Exit->Act->World->Prop) (S:World->Prop) (T:List Nat) (fuel:Nat) (listed:Array Bool) (a:Act) (w:World) (rs:List Nat):Prop:=
 ∀ i∈rs,wpOp P ops Q i (fun a' w'=>(fj T (listed.setIfInBounds i true)=true->S w')/\ey P md ops Q S T fuel (listed.setIfInBounds i true) a' w') a w
theorem ct.nil{fuel}{listed:Array Bool}{a}:ct P md ops Q S T fuel listed a w []:=fun _ h=>by cases h
theorem ct.cons{fuel:Nat}{listed:Array Bool}{a:Act}{o:Oper}{rs:List Nat}(ho:ops[i]?=some o)(h:∀ K':Act->World->Prop,Shut (∀ a w,S w->(S w->ey P md ops Q S T fuel (listed.setIfInBounds i true) a w)->K' a w)->if Region.wanted o (yielded ops a.tmps)=true then Oper.wp P o a w K' Q else K' (a.put o.dst undef) w)(hs:ct P md ops Q S T fuel listed a w rs):ct P md ops Q S T fuel listed a w (i :: rs):=fun j hj=>by
 rcases List.mem_cons.1 hj with rfl | hj
 ·exact wpOp_step ho (fun K' hK=>h K' (fun a w hS hW=>hK a w ⟨fun _=>hS,hW hS⟩))
 ·exact hs j hj
theorem fy{rs fuel}{listed:Array Bool}{a}(hr:Region.ready md ops listed=rs)(hne:rs≠[])(h:ct P md ops Q S T fuel listed a w rs):ey P md ops Q S T (fuel+1) listed a w:=⟨fun h0=>absurd (hr ▸ h0) hne,hr ▸ h⟩
theorem dF{o:Oper}{fuel:Nat}{listed:Array Bool}{a:Act}(hr:Region.ready md ops listed=[i])(hu:fj T (listed.setIfInBounds i true)=false)(ho:ops[i]?=some o)(h:∀ K':Act->World->Prop,Shut (∀ a w,ey P md ops Q S T fuel (listed.setIfInBounds i true) a w->K' a w)->if Region.wanted o (yielded ops a.tmps)=true then Oper.wp P o a w K' Q else K' (a.put o.dst undef) w):ey P md ops Q S T (fuel+1) listed a w:=by
 refine⟨fun h0=>(by rw[hr]at h0;cases h0),fun j hj=>?_⟩;rw[hr,List.mem_singleton]at hj;subst hj;exact wpOp_step ho (fun K' hK=>h K' (fun a w hW=>hK a w ⟨fun h=>absurd h (by rw[hu];simp),hW⟩))
theorem gx{listed:Array Bool}{a}(hr:Region.ready md ops listed=[])(h:Q .normal a w):∀ fuel,ey P md ops Q S T fuel listed a w
 | 0=>⟨hr,h⟩
 | _+1=>⟨fun _=>h,by rw[hr];simp⟩
theorem aD{id a}(S:World->Prop)(T)(hm:P.follows .mixedOrders=true)(hS:S w.drew)(h:S w.drew->ey P .any ops Q S T ops.size (Array.replicate ops.size false) a w.drew):(Code.region id ops true).wp P Q a w:=
 wp_region_any hm (qu _ _ _ _ (h hS))
end
end
section
open Go
section
variable {P:Program} {ops:Array Oper} {Q:Exit->Act->World->Prop} {md:Region.Mode} {S:World->Prop} {T:List Nat}
theorem qx{listed:Array Bool}{T}(h:fj T (listed.setIfInBounds i true)=true):fj T listed=true:=by
 unfold fj at h ⊢;rw[List.all_eq_true]at h ⊢;intro t ht;have h0:=h t ht;by_cases e:i=t
 ·subst e;by_cases hs:i < listed.size
  ·simp[Array.getD,hs]at h0
  ·simp[Array.getD,hs]at h0
 ·rw[getD_set_ne true e]at h0;exact h0
theorem Cv{listed:Array Bool}{T}(hi:i ∉ T)(h:fj T listed=true):fj T (listed.setIfInBounds i true)=true:=by
 unfold fj at h ⊢;rw[List.all_eq_true]at h ⊢;intro t ht;have e:i≠t:=fun e=>hi (e ▸ ht);rw[getD_set_ne true e];exact h t ht
theorem rm{oi:Oper}(hi:ops[i]?=some oi)(hsel:∀ (j:Nat) (o:Oper) cs b,ops[j]?=some o->o.op≠.select cs b)(hQ:∀ c a w,Q (.panic c) (a.put oi.dst v) w->Q (.panic c) a w)(hiT:i ∉ T):∀ (fuel:Nat) (listed:Array Bool) (a:Act) (w:World),
 (∀ j oj,ops[j]?=some oj->j≠i->listed.getD j true=false->(∀ e∈oj.after,Region.binds md e=true->e.on≠i)->oi.apart ops oj=true) ->
 i∈Region.ready md ops listed->Yields P ops oi v a->(fj T listed=true->S w) ->
 ey P md ops Q S T fuel (listed.setIfInBounds i true) (a.put oi.dst v) w->ey P md ops Q S T (fuel+1) listed a w:=by
 intro fuel;induction fuel with
 | zero=>
  intro listed a w _ hr hy hS H;refine⟨fun h=>(by rw[h]at hr;cases hr),fun j hj=>?_⟩;by_cases hji:j=i
  ·subst hji;exact hy.wpOp hi ⟨fun h=>hS (qx h),H⟩
  ·have:=ready_mono hj hji;rw[H.1]at this;cases this
 | succ fuel ih=>
  intro listed a w hfree hr hy hS H;refine⟨fun h=>(by rw[h]at hr;cases hr),fun j hj=>?_⟩;by_cases hji:j=i
  ·subst hji;exact hy.wpOp hi ⟨fun h=>hS (qx h),H⟩
  ·have h1:=H.2 j (ready_mono hj hji);obtain⟨hjun,oj,hoj,hall⟩:=mem_ready.1 hj;have hnot:∀ e∈oj.after,Region.binds md e=true->e.on≠i:=fun e he hb heq=>by
    have h1:=hall e he hb;have h0:=(mem_ready.1 hr).1;rw[heq]at h1;rcases Nat.lt_or_ge i listed.size with h' | h'
    ·simp[h']at h0 h1;rw[h0]at h1;cases h1
    ·simp[Array.getElem?_eq_none h']at h1
   have h2:=wpOp_put hoj (hfree j oj hoj hji hjun hnot) (fun cs b=>hsel i oi cs b hi) (fun cs b=>hsel j oj cs b hoj) hQ hy h1;have hfree':∀ k ok,ops[k]?=some ok->k≠i->(listed.setIfInBounds j true).getD k true=false ->
    (∀ e∈ok.after,Region.binds md e=true->e.on≠i)->oi.apart ops ok=true:=fun k ok hk hki hun hno=>by
    refine hfree k ok hk hki ?_ hno;by_cases hjk:j=k
    ·subst hjk;exact hjun
    ·rw[getD_set_ne true hjk]at hun;exact hun
   refine wpOp_mono (fun a' w' h3=>?_) h2;have hs:fj T (listed.setIfInBounds j true)=true->S w':=fun h=>h3.2.1 (by rw[Array.setIfInBounds_comm _ _ (Ne.symm hji)];exact Cv hiT h);refine⟨hs,ih (listed.setIfInBounds j true) a' w' hfree' (ready_mono hr (Ne.symm hji)) h3.1 hs ?_⟩;rw[Array.setIfInBounds_comm _ _ hji];exact h3.2.2
theorem gP{oi:Oper}{fuel}{listed:Array Bool}{a}(hi:ops[i]?=some oi)(hs:Region.noSelect ops=true)(hf:Region.free md ops listed i=true)(hr:(Region.ready md ops listed).contains i=true)(hT:T.contains i=false)(hQ:∀ c a w,Q (.panic c) (a.put oi.dst v) w->Q (.panic c) a w)(hy:Yields P ops oi v a)(hS:S w)(h:ey P md ops Q S T fuel (listed.setIfInBounds i true) (a.put oi.dst v) w):ey P md ops Q S T (fuel+1) listed a w:=
 rm hi (Region.noSelect_spec hs) hQ (by simpa using hT) fuel listed a w (Region.free_spec hi hf) (by simpa using hr) hy (fun _=>hS) h
end
end
variable {d:Nat}
section
open Go
section
variable {P:Program} {ops:Array Oper} {Q:Exit->Act->World->Prop} {md:Region.Mode} {S:World->Prop} {T:List Nat}
theorem av(l:List Value)(d:List Deferred)(i:Nat)(v):Act.put ⟨l.toArray,d⟩ (some i) v=⟨(l.set i v).toArray,d⟩:=by
 simp[Act.put]
structure WT (P:Program) (md:Region.Mode) (ops:Array Oper) (Q:Exit->Act->World->Prop) (S:World->Prop) (T:List Nat) (fuel:Nat) (listed:Array Bool) (a:Act) (w:World):Prop where
 out:ey P md ops Q S T fuel listed a w
structure WR (P:Program) (md:Region.Mode) (ops:Array Oper) (Q:Exit->Act->World->Prop) (S:World->Prop) (T:List Nat) (fuel:Nat) (listed:Array Bool) (a:Act) (w:World) (rs:List Nat):Prop where
 out:ct P md ops Q S T fuel listed a w rs
theorem tk{oi:Oper}{fuel}{listed:Array Bool}{a}(D)(hi:ops[i]?=some oi)(hd:oi.dst=some d)(hc:(Region.noSelect ops&&Region.free md ops listed i&&(Region.ready md ops listed).contains i&&tJ md ops listed i T D)=true)(hw:Region.wanted oi (yielded ops a.tmps)=true)(hQ:∀ c a w,Q (.panic c) (a.put (some d) v) w->Q (.panic c) a w)(hS:S w)(hy:∀ w,S w->(execOp a.eval oi).run P w=.ok (.value v) w)(h:WT P md ops Q S T fuel (listed.setIfInBounds i true) (a.put (some d) v) w):WT P md ops Q S T (fuel+1) listed a w:=by
 simp only[Bool.and_eq_true]at hc;rw[<-hd]at hQ h;exact⟨ay D hi hc.1.1.1 hc.1.1.2 hc.1.2 hc.2 hQ (.inl ⟨hw,hy⟩) hS h.out⟩
theorem OJ(i v){oi:Oper}{fuel}{listed:Array Bool}{a}(D)(hS:S w)(hy:∀ w,S w->(execOp a.eval oi).run P w=.ok (.value v) w)(h:WT P md ops Q S T fuel (listed.setIfInBounds i true) (a.put (some d) v) w)(hi:ops[i]?=some oi:=by rfl)(hd:oi.dst=some d:=by rfl)(hc:(Region.noSelect ops&&Region.free md ops listed i&&(Region.ready md ops listed).contains i&&tJ md ops listed i T D)=true:=by decide +kernel)(hw:Region.wanted oi (yielded ops a.tmps)=true:=by rfl)(hQ:∀ c a w,Q (.panic c) (a.put (some d) v) w->Q (.panic c) a w:=by exact fun _ _ _ h=>h):WT P md ops Q S T (fuel+1) listed a w:=tk D hi hd hc hw hQ hS hy h
theorem JY{oi:Oper}{fuel}{listed:Array Bool}{a}(hi:ops[i]?=some oi)(hd:oi.dst=some d)(hc:(Region.noSelect ops&&Region.free md ops listed i&&(Region.ready md ops listed).contains i&&!T.contains i)=true)(hw:Region.wanted oi (yielded ops a.tmps)=true)(hQ:∀ c a w,Q (.panic c) (a.put (some d) v) w->Q (.panic c) a w)(hS:S w)(hy:∀ w,(execOp a.eval oi).run P w=.ok (.value v) w)(h:WT P md ops Q S T fuel (listed.setIfInBounds i true) (a.put (some d) v) w):WT P md ops Q S T (fuel+1) listed a w:=by
 simp only[Bool.and_eq_true,Bool.not_eq_true']at hc;rw[<-hd]at hQ h;exact⟨gP hi hc.1.1.1 hc.1.1.2 hc.1.2 hc.2 hQ (.inl ⟨hw,hy⟩) hS h.out⟩
theorem Pm(i v){oi:Oper}{fuel}{listed:Array Bool}{a}(hS:S w)(hy:∀ w,(execOp a.eval oi).run P w=.ok (.value v) w)(h:WT P md ops Q S T fuel (listed.setIfInBounds i true) (a.put (some d) v) w)(hi:ops[i]?=some oi:=by rfl)(hd:oi.dst=some d:=by rfl)(hc:(Region.noSelect ops&&Region.free md ops listed i&&(Region.ready md ops listed).contains i&&!T.contains i)=true:=by decide +kernel)(hw:Region.wanted oi (yielded ops a.tmps)=true:=by rfl)(hQ:∀ c a w,Q (.panic c) (a.put (some d) v) w->Q (.panic c) a w:=by exact fun _ _ _ h=>h):WT P md ops Q S T (fuel+1) listed a w:=JY hi hd hc hw hQ hS hy h
theorem gc(rs){fuel}{listed:Array Bool}{a}(hr:(Region.ready md ops listed == rs&&!rs.isEmpty)=true)(h:WR P md ops Q S T fuel listed a w rs):WT P md ops Q S T (fuel+1) listed a w:=by
 rw[Bool.and_eq_true,beq_iff_eq]at hr;exact⟨fy hr.1 (by intro e;rw[e]at hr;simp at hr) h.out⟩
theorem nl{fuel}{listed:Array Bool}{a}:WR P md ops Q S T fuel listed a w []:=⟨ct.nil⟩
theorem ip{fuel:Nat}{listed:Array Bool}{a:Act}{o:Oper}{rs:List Nat}(ho:ops[i]?=some o)(h:∀ K':Act->World->Prop,Shut (∀ a w,S w->(S w->WT P md ops Q S T fuel (listed.setIfInBounds i true) a w)->K' a w)->if Region.wanted o (yielded ops a.tmps)=true then Oper.wp P o a w K' Q else K' (a.put o.dst undef) w)(hs:WR P md ops Q S T fuel listed a w rs):WR P md ops Q S T fuel listed a w (i :: rs):=
 ⟨ct.cons ho (fun K' hK=>h K' (fun a w hS hW=>hK a w hS fun h=>(hW h).out)) hs.out⟩
theorem jZ{o:Oper}{fuel:Nat}{listed:Array Bool}{a:Act}(hr:(Region.ready md ops listed == [i]&&!fj T (listed.setIfInBounds i true))=true)(ho:ops[i]?=some o)(h:∀ K':Act->World->Prop,Shut (∀ a w,WT P md ops Q S T fuel (listed.setIfInBounds i true) a w->K' a w)->if Region.wanted o (yielded ops a.tmps)=true then Oper.wp P o a w K' Q else K' (a.put o.dst undef) w):WT P md ops Q S T (fuel+1) listed a w:=by
 rw[Bool.and_eq_true,beq_iff_eq,Bool.not_eq_true']at hr;exact⟨dF hr.1 hr.2 ho (fun K' hK=>h K' (fun a w hW=>hK a w hW.out))⟩
theorem OL(rs){fuel}{listed:Array Bool}{a}(h:WR P md ops Q S T fuel listed a w rs)(hr:(Region.ready md ops listed == rs&&!rs.isEmpty)=true:=by decide +kernel):WT P md ops Q S T (fuel+1) listed a w:=gc rs hr h
theorem TD(i){fuel}{listed:Array Bool}{a}{o:Oper}{rs}(h:∀ K':Act->World->Prop,Shut (∀ a w,S w->(S w->WT P md ops Q S T fuel (listed.setIfInBounds i true) a w)->K' a w)->if Region.wanted o (yielded ops a.tmps)=true then Oper.wp P o a w K' Q else K' (a.put o.dst undef) w)(hs:WR P md ops Q S T fuel listed a w rs)(ho:ops[i]?=some o:=by rfl):WR P md ops Q S T fuel listed a w (i :: rs):=ip ho h hs
theorem OO(i){o:Oper}{fuel}{listed:Array Bool}{a}(h:∀ K':Act->World->Prop,Shut (∀ a w,WT P md ops Q S T fuel (listed.setIfInBounds i true) a w->K' a w)->if Region.wanted o (yielded ops a.tmps)=true then Oper.wp P o a w K' Q else K' (a.put o.dst undef) w)(hr:(Region.ready md ops listed == [i]&&!fj T (listed.setIfInBounds i true))=true:=by decide +kernel)(ho:ops[i]?=some o:=by rfl):WT P md ops Q S T (fuel+1) listed a w:=jZ hr ho h
theorem dn{listed:Array Bool}{a fuel}(hr:Region.ready md ops listed=[])(h:Q .normal a w):WT P md ops Q S T fuel listed a w:=⟨gx hr h fuel⟩
end
end
end Go.Proofs.YtbdlfclnkpofaaaGreatDoor
