import Derived.Test.YtkjeiljdoljjgaaGreatDoorG20
import Derived.Test.YtkjeiljdoljjgaaGreatDoorG23
set_option maxRecDepth 100000
set_option maxHeartbeats 40000000
set_option linter.unusedSimpArgs false
set_option linter.unusedVariables false
namespace Go.Proofs.YtkjeiljdoljjgaaGreatDoor
open Go.RowKit
variable {w w':World}
variable {ok:Nat->Prop}
variable {v:Value}
variable {B:Nat}
theorem fY:∀ (L0:List (List Value)),(∀ c∈L0,c.length=15)->L0.flatten.length=L0.length * 15
 | [],_=>rfl
 | c :: r,h=>by
  rw[List.flatten_cons,Mx,fY r (fun x hx=>h x (by simp[hx])),h c (by simp),My];omega
theorem nd:∀ (L0:List (List Value)) (i:Nat),(∀ c∈L0,c.length=15)->L0.flatten.take (i * 15)=(L0.take i).flatten
 | [],i,_=>by simp
 | c :: r,0,_=>by simp
 | c :: r,i+1,h=>by
  rw[List.flatten_cons,List.take_succ_cons,List.flatten_cons,List.take_append,MD (by rw[h c (by simp)];omega),h c (by simp),show (i+1) * 15 - 15=i * 15 by omega,nd r i (fun x hx=>h x (by simp[hx]))]
theorem mF:∀ (L0:List (List Value)) (i:Nat),(∀ c∈L0,c.length=15)->L0.flatten.drop (i * 15)=(L0.drop i).flatten
 | [],i,_=>by simp
 | c :: r,0,_=>by simp
 | c :: r,i+1,h=>by
  rw[List.flatten_cons,List.drop_succ_cons,List.drop_append,List.drop_of_length_le (by rw[h c (by simp)];omega),h c (by simp),show (i+1) * 15 - 15=i * 15 by omega,mF r i (fun x hx=>h x (by simp[hx])),List.nil_append]
theorem oN:∀ (L0:List (List Value)) (i j:Nat) (c:List Value),(∀ c∈L0,c.length=15)->L0[i]?=some c->j < 15->L0.flatten[i * 15+j]?=c[j]?
 | [],i,j,c,_,h,_=>by simp at h
 | c' :: r,0,j,c,hl,h,hj=>by
  simp only[List.getElem?_cons_zero,Option.some.injEq]at h;subst h;rw[List.flatten_cons,List.getElem?_append_left (by rw[hl c' (by simp)];omega)];simp
 | c' :: r,i+1,j,c,hl,h,hj=>by
  simp only[List.getElem?_cons_succ]at h;rw[List.flatten_cons,List.getElem?_append_right (by rw[hl c' (by simp)];omega),hl c' (by simp),show (i+1) * 15+j - 15=i * 15+j by omega];exact oN r i j c (fun x hx=>hl x (by simp[hx])) h hj
theorem uX:∀ (L0:List (List Value)) (i j:Nat) (c:List Value) (v:Value),(∀ c∈L0,c.length=15)->L0[i]?=some c->j < 15->L0.flatten.set (i * 15+j) v=(L0.set i (c.set j v)).flatten
 | [],i,j,c,v,_,h,_=>by simp at h
 | c' :: r,0,j,c,v,hl,h,hj=>by
  simp only[List.getElem?_cons_zero,Option.some.injEq]at h;subst h;rw[List.flatten_cons,Mu,List.flatten_cons,Nat.zero_mul,Nat.zero_add,List.set_append_left _ _ (by rw[hl c' (by simp)];omega)]
 | c' :: r,i+1,j,c,v,hl,h,hj=>by
  simp only[List.getElem?_cons_succ]at h;rw[List.flatten_cons,Mv,List.flatten_cons,List.set_append_right _ _ (by rw[hl c' (by simp)];omega),hl c' (by simp),show (i+1) * 15+j - 15=i * 15+j by omega,uX r i j c v (fun x hx=>hl x (by simp[hx])) h hj]
def dm (w:LC) (B:Nat) (ok:Nat->Prop) (ths:List Th) (v:Value):Prop:=
 ∃ L0:List (List Value),L0.length=ths.length/\w.ownsRow B 40 15 v ths.length L0.flatten /\
  ∀ (i:Nat) (t:Th) (cs:List Value),ths[i]?=some t->L0[i]?=some cs->∃ a b c d oa oc,cs=cu t a b c d oa oc/\cQ w ok t a b c d oa oc
theorem dm.fifteen{ths:List Th}{L0:List (List Value)}(hl:L0.length=ths.length)(h:∀ (i:Nat) (t:Th) (cs:List Value),ths[i]?=some t->L0[i]?=some cs->∃ a b c d oa oc,cs=cu t a b c d oa oc/\cQ w ok t a b c d oa oc):∀ c∈L0,c.length=15:=by
 intro c hc;obtain⟨i,hi,rfl⟩:=List.getElem_of_mem hc;obtain⟨_,_,_,_,_,_,e,-⟩:=h i (ths[i]'(by omega)) L0[i] (Mw (by omega)) (Mw hi);rw[e];rfl
theorem dm.form{ths}(h:dm w B ok ths v):∃ a c,v=.slice a ths.length c:=by
 obtain⟨L0,-,h,-⟩:=h;rcases h.2 with⟨rfl,e⟩ | ⟨g,cap,cur,rfl,-⟩
 ·rw[e];exact⟨_,_,rfl⟩
 ·exact⟨_,_,rfl⟩
theorem dm.bel{ths}(h:dm w B ok ths v)(hb:La w w'):dm w' B ok ths v:=by
 obtain⟨L0,h1,h2,h3⟩:=h;refine⟨L0,h1,bM h2 fun g hg=>hb.block g (bY h2 hg).2,fun i t cs ht hc=>?_⟩;obtain⟨a,b,c,d,oa,oc,e,k⟩:=h3 i t cs ht hc;exact⟨a,b,c,d,oa,oc,e,k.bel hb⟩
theorem dm.ths{ths}(h:dm w B ok ths v):cO w (fun k=>ok k\/v.ownBlock=some k) ths v:=by
 obtain⟨L0,h1,h2,h3⟩:=h;have h15:=dm.fifteen h1 h3;rcases h2.2 with⟨rfl,e⟩ | ⟨g,cap,cur,rfl,k1,k2,k3,k4,k5,k6⟩
 ·have:ths=[]:=List.length_eq_zero_iff.1 e;subst this;exact⟨by simp,.inl ⟨rfl,none,rfl⟩⟩
 ·unfold maxLen at k4;refine⟨by omega,.inr ⟨g,0,cap,rfl,k3,k4,fun i t ht=>⟨.inr rfl,?_⟩⟩⟩;have hi:i < ths.length:=(Mz.1 ht).1;obtain⟨a,b,c,d,oa,oc,e,k⟩:=h3 i t (L0[i]'(by omega)) ht (Mw (by omega));refine⟨a,b,c,d,oa,oc,fun j u hu=>?_,k.weak fun k hk=>.inl hk⟩;have hj:j < 15:=(Mz.1 hu).1;have e1:=oN L0 i j _ h15 (Mw (by omega)) hj;rw[e,hu,<-k6,List.getElem?_take,if_pos (by omega)]at e1;rw[Nat.zero_add];simpa [World.cell?,k2] using e1
end Go.Proofs.YtkjeiljdoljjgaaGreatDoor
