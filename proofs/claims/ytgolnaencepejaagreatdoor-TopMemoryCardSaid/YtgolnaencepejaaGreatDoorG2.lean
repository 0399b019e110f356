import Derived.Shelf.SlSortCmp.NoneTotal
import Derived.Shelf.SlCmpFuncs.BinarySearchFunc
import Derived.Shelf.SlicesE.IndexFunc
import Derived.Shelf.SlicesQ.IndexFunc
import Derived.Shelf.Small.Wraps
import Derived.Shelf.Small.Strs
import Derived.Test.YtgolnaencepejaaGreatDoorProg
import Derived.Shelf.Strings.BuilderK
import Derived.Shelf.Utf8.RuneCount
import Derived.Shelf.Strings.Builder2Cap
import Derived.Shelf.Strconv.Itoa3
import Derived.Shelf.Strconv.ErrVarAll
import Derived.Shelf.Strconv.ParseUintEmpty
import Derived.Shelf.Strconv.ParseUint10b64
import Derived.Shelf.Strconv.ParseUint10b32
import Derived.Shelf.Strconv.ParseUint10b16
import Derived.Shelf.Strconv.ParseUint10b8
import Derived.Shelf.Strings.Shaped
import Derived.Shelf.Strconv.AppendIntPublic10
import Derived.Shelf.Strings.SplitShaped
import Derived.Shelf.Strings.Explode
import Derived.Shelf.Unicode.DecodeAny
import Derived.Shelf.Slices.Turned
import Derived.Shelf.Slices.Clone
import Derived.Shelf.Slices.Empties2
import Derived.Shelf.SlicesE.Clone
import Derived.Deep.RegionHeld3
set_option maxRecDepth 100000
set_option maxHeartbeats 40000000
set_option linter.unusedSimpArgs false
set_option linter.unusedVariables false
namespace Go.Proofs
open Go.Shelf
open Tryz
def Tryz.laysSort_ren:Go.Shelf.Ren:=⟨fun | 6=>154 | 15=>189 | 14=>188 | 28=>226 | 29=>177 | 20=>218 | 21=>219 | 22=>220 | 23=>221 | 24=>222 | 25=>223 | 26=>224 | 27=>225 | 46=>240 | 47=>241 | 48=>242 | 49=>243 | 50=>244 | 57=>253 | n=>n,fun | 22=>36 | 24=>9 | 25=>78 | 3=>3 | 39=>100 | 0=>0 | 53=>214 | 55=>153 | 4=>4 | 46=>244 | 45=>243 | 50=>60 | 5=>5 | 9=>9 | 66=>267 | 70=>108 | 76=>281 | 77=>282 | n=>n,fun | n=>n⟩
theorem Tryz.laysSort:Go.Proofs.SlLaysF.n6 prog Tryz.laysSort_ren:={
 mixed:=by kernel_rfl
 f6:=⟨f154.name,by decide,func154.trans (congrArg some (by kernel_rfl))⟩
 f14:=⟨f188.name,by decide,func188.trans (congrArg some (by kernel_rfl))⟩
 f15:=func189.trans (congrArg some (by kernel_rfl))
 f20:=⟨f218.name,by decide,func218.trans (congrArg some (by kernel_rfl))⟩
 f21:=⟨f219.name,by decide,func219.trans (congrArg some (by kernel_rfl))⟩
 f22:=⟨f220.name,by decide,func220.trans (congrArg some (by kernel_rfl))⟩
 f23:=⟨f221.name,by decide,func221.trans (congrArg some (by kernel_rfl))⟩
 f24:=⟨f222.name,by decide,func222.trans (congrArg some (by kernel_rfl))⟩
 f25:=⟨f223.name,by decide,func223.trans (congrArg some (by kernel_rfl))⟩
 f26:=⟨f224.name,by decide,func224.trans (congrArg some (by kernel_rfl))⟩
 f27:=⟨f225.name,by decide,func225.trans (congrArg some (by kernel_rfl))⟩
 f28:=func226.trans (congrArg some (by kernel_rfl))
 f29:=func177.trans (congrArg some (by kernel_rfl))
 f46:=⟨f240.name,by decide,func240.trans (congrArg some (by kernel_rfl))⟩
 f47:=func241.trans (congrArg some (by kernel_rfl))
 f48:=func242.trans (congrArg some (by kernel_rfl))
 f49:=⟨f243.name,by decide,func243.trans (congrArg some (by kernel_rfl))⟩
 f50:=⟨f244.name,by decide,func244.trans (congrArg some (by kernel_rfl))⟩
 f57:=⟨f253.name,by decide,func253.trans (congrArg some (by kernel_rfl))⟩
 t0:=underlying0
 a0:=isAgg0
 z0:=sizeOf0
 v0:=zeroValue0
 t3:=underlying3
 a3:=isAgg3
 z3:=sizeOf3
 v3:=zeroValue3
 t4:=underlying4
 a4:=isAgg4
 z4:=sizeOf4
 v4:=zeroValue4
 t5:=underlying5
 a5:=isAgg5
 z5:=sizeOf5
 v5:=zeroValue5
 t9:=underlying9
 a9:=isAgg9
 z9:=sizeOf9
 v9:=zeroValue9
 t22:=underlying36
 a22:=isAgg36
 z22:=sizeOf36
 v22:=zeroValue36
 a24:=isAgg9
 z24:=sizeOf9
 t25:=underlying78
 a25:=isAgg78
 z25:=sizeOf78
 v25:=zeroValue78
 t39:=underlying100
 a39:=isAgg100
 z39:=sizeOf100
 v39:=zeroValue100
 t45:=underlying243
 a45:=isAgg243
 z45:=sizeOf243
 v45:=zeroValue243
 t46:=underlying244
 a46:=isAgg244
 z46:=sizeOf244
 v46:=zeroValue244
 t50:=underlying60
 a50:=isAgg60
 z50:=sizeOf60
 v50:=zeroValue60
 t53:=underlying214
 a53:=isAgg214
 z53:=sizeOf214
 v53:=zeroValue214
 t55:=underlying153
 a55:=isAgg153
 z55:=sizeOf153
 v55:=zeroValue153
 t66:=underlying267
 a66:=isAgg267
 z66:=sizeOf267
 v66:=zeroValue267
 t70:=underlying108
 a70:=isAgg108
 z70:=sizeOf108
 v70:=zeroValue108
 t76:=underlying281
 a76:=isAgg281
 z76:=sizeOf281
 v76:=zeroValue281
 t77:=underlying282
 a77:=isAgg282
 z77:=sizeOf282
 v77:=zeroValue282 }
def Tryz.lays103_ren:Go.Shelf.Ren:=⟨fun | 103=>157 | 210=>190 | 206=>182 | n=>n,fun | 9=>9 | 4=>4 | 24=>194 | 3=>3 | n=>n,fun | n=>n⟩
theorem Tryz.lays103:Go.Proofs.Lays.n103 prog Tryz.lays103_ren:={
 mixed:=by kernel_rfl
 f103:=func157.trans (congrArg some (by kernel_rfl))
 f206:=func182.trans (congrArg some (by kernel_rfl))
 f210:=func190.trans (congrArg some (by kernel_rfl))
 t3:=underlying3
 a3:=isAgg3
 z3:=sizeOf3
 v3:=zeroValue3
 t4:=underlying4
 a4:=isAgg4
 z4:=sizeOf4
 v4:=zeroValue4
 t9:=underlying9
 a9:=isAgg9
 z9:=sizeOf9
 v9:=zeroValue9
 t24:=underlying194
 a24:=isAgg194
 z24:=sizeOf194
 v24:=zeroValue194 }
theorem Tryz.strings_CutPrefix (s p:ByteArray) (w:World) :
 Calls prog 157 #[.string s,.string p] w fun e w'=>e=.returned (.tuple #[.string ⟨(Lib.trimPrefix s.data.toList p.data.toList).toArray⟩,.bool (Lib.hasPrefix s.data.toList p.data.toList)])/\w'=w:=Any.strings_CutPrefix Tryz.lays103 s p w
def Tryz.lays106o_ren:Go.Shelf.Ren:=⟨fun | 106=>35 | 213=>53 | 265=>68 | n=>n,fun | 9=>9 | 3=>3 | n=>n,fun | n=>n⟩
theorem Tryz.lays106o:Go.Proofs.Lays.n106 prog Tryz.lays106o_ren:={
 mixed:=by kernel_rfl
 f106:=func35.trans (congrArg some (by kernel_rfl))
 f213:=func53.trans (congrArg some (by kernel_rfl))
 f265:=func68.trans (congrArg some (by kernel_rfl))
 t3:=underlying3
 a3:=isAgg3
 z3:=sizeOf3
 v3:=zeroValue3
 t9:=underlying9
 a9:=isAgg9
 z9:=sizeOf9
 v9:=zeroValue9 }
theorem Tryz.strCompare (a b:ByteArray) (w:World) :
 Calls prog 35 #[.string a,.string b] w fun e w'=>e=.returned (.int .i64 (Lib.compareBytes a.data.toList b.data.toList))/\w'=w:=Any.strings_Compare Tryz.lays106o a b w
end Go.Proofs
namespace Go.Proofs
open Go.Shelf
open Tryz
def Tryz.lays193_ren:Go.Shelf.Ren:=⟨fun | 193=>60 | n=>n,fun | 31=>36 | 9=>9 | 4=>4 | 3=>3 | 0=>0 | n=>n,fun | n=>n⟩
theorem Tryz.lays193:Go.Proofs.Lays.n193 prog Tryz.lays193_ren:={
 mixed:=by kernel_rfl
 f193:=func60.trans (congrArg some (by kernel_rfl))
 t0:=underlying0
 a0:=isAgg0
 z0:=sizeOf0
 v0:=zeroValue0
 t3:=underlying3
 a3:=isAgg3
 z3:=sizeOf3
 v3:=zeroValue3
 t4:=underlying4
 a4:=isAgg4
 z4:=sizeOf4
 v4:=zeroValue4
 t9:=underlying9
 a9:=isAgg9
 z9:=sizeOf9
 v9:=zeroValue9
 t31:=underlying36
 a31:=isAgg36
 z31:=sizeOf36
 v31:=zeroValue36 }
open Go.RowKit Go.Lib in
theorem Tryz.slices_Equal_string (b1 o1 n c b2 o2 m d:Nat) (xs ys:List ByteArray) (w:World) (hx:n<=xs.length) (hy:m<=ys.length) (hbig:n<=9223372036854775807) (hbig2:m<=9223372036854775807) (hc1:∀ j,j < xs.length->w.cell? ⟨b1,o1+j,none⟩=some (.string (xs.getD j ByteArray.empty))) (hc2:∀ j,j < ys.length->w.cell? ⟨b2,o2+j,none⟩=some (.string (ys.getD j ByteArray.empty))) :
 Calls prog 60 #[.slice (some ⟨b1,o1,none⟩) n c,.slice (some ⟨b2,o2,none⟩) m d] w fun e w'=>e=.returned (.bool (decide (xs.take n=ys.take m)))/\∃ q,w'=w.drewN q:=Any.slices_Equal_string Tryz.lays193 b1 o1 n c b2 o2 m d xs ys w hx hy hbig hbig2 hc1 hc2
open Go.RowKit Go.Lib in
theorem Tryz.slices_Equal_string_empty (a1 a2:Option Addr) (c m d:Nat) (w:World) (hbig2:m<=9223372036854775807) :
 Calls prog 60 #[.slice a1 0 c,.slice a2 m d] w fun e w'=>e=.returned (.bool (decide (m=0)))/\w'=w:=Any.slices_Equal_string_empty Tryz.lays193 a1 a2 c m d w hbig2
open Go.RowKit Go.Lib in
theorem Tryz.slices_Equal_string_lens (a1 a2:Option Addr) (n c m d:Nat) (w:World) (hnm:n≠m) :
 Calls prog 60 #[.slice a1 n c,.slice a2 m d] w fun e w'=>e=.returned (.bool false)/\w'=w:=Any.slices_Equal_string_lens Tryz.lays193 a1 a2 n c m d w hnm
end Go.Proofs
namespace Go.Proofs.YtgolnaencepejaaGreatDoor
open _root_.Go.Proofs.Tryz
variable {w:World}
variable {v:Value}
variable {i:Nat}
section
open Go
section
variable {P:Program} {ops:Array Oper} {Q:Exit->Act->World->Prop} {md:Region.Mode} {S:World->Prop} {T:List Nat}
def fj (T:List Nat) (listed:Array Bool):Bool:=T.all fun t=>listed.getD t true == false
def ey (P:Program) (md:Region.Mode) (ops:Array Oper) (Q:Exit->Act->World->Prop) (S:World->Prop) (T:List Nat):Nat->Array Bool->Act->World->Prop
 | 0,listed,a,w=>Region.ready md ops listed=[]/\Q .normal a w
 | fuel+1,listed,a,w=>
  (Region.ready md ops listed=[]->Q .normal a w) /\
  ∀ i∈Region.ready md ops listed,wpOp P ops Q i (fun a' w'=>(fj T (listed.setIfInBounds i true)=true->S w')/\ey P md ops Q S T fuel (listed.setIfInBounds i true) a' w') a w
theorem qu:∀ (fuel:Nat) (listed:Array Bool) (a:Act) (w:World),ey P md ops Q S T fuel listed a w->wpAny P md ops Q fuel listed a w
 | 0,_,_,_,h=>h
 | fuel+1,_,_,_,h=>⟨h.1,fun i hi=>wpOp_mono (fun a' w' h'=>qu fuel _ a' w' h'.2) (h.2 i hi)⟩
def tJ (md:Region.Mode) (ops:Array Oper) (listed:Array Bool) (i:Nat) (T D:List Nat):Bool:=
 (D.all fun d=>(match ops[d]? with | some o=>o.after.any fun e=>Region.binds md e&&(e.on == i || D.contains e.on) | none=>false)&&listed.getD d true == false)&&T.all fun t=>D.contains t
theorem qk{listed:Array Bool}{D:List Nat}(hD:∀ d∈D,(∃ o,ops[d]?=some o/\∃ e∈o.after,Region.binds md e=true/\(e.on=i\/e.on∈D))/\listed.getD d true=false)(hi:listed.getD i true=false){j:Nat}(hj:j∈Region.ready md ops listed):j ∉ D:=by
 intro hjD;obtain⟨⟨o,ho,e,he,hb,hon⟩,-⟩:=hD j hjD;obtain⟨-,oj,hoj,hall⟩:=mem_ready.1 hj;rw[ho]at hoj;cases hoj;have h1:=hall e he hb;have h0:listed.getD e.on true=false:=by
  rcases hon with h | h
  ·rw[h];exact hi
  ·exact(hD _ h).2
 rcases Nat.lt_or_ge e.on listed.size with h' | h'
 ·simp[h']at h0 h1;rw[h0]at h1;cases h1
 ·simp[Array.getElem?_eq_none h']at h1
theorem Ee{listed:Array Bool}{T D:List Nat}(hT:∀ t∈T,t∈D)(hD:∀ d∈D,listed.getD d true=false)(hi:i ∉ D):fj T (listed.setIfInBounds i true)=true:=by
 unfold fj;rw[List.all_eq_true];intro t ht;have:i≠t:=fun e=>hi (e ▸ hT t ht);rw[getD_set_ne true this,hD t (hT t ht)];rfl
theorem tz{oi:Oper}{D:List Nat}(hi:ops[i]?=some oi)(hsel:∀ (j:Nat) (o:Oper) cs b,ops[j]?=some o->o.op≠.select cs b)(hQ:∀ c a w,Q (.panic c) (a.put oi.dst v) w->Q (.panic c) a w)(hTD:∀ t∈T,t∈D):∀ (fuel:Nat) (listed:Array Bool) (a:Act) (w:World),
 (∀ j oj,ops[j]?=some oj->j≠i->listed.getD j true=false->(∀ e∈oj.after,Region.binds md e=true->e.on≠i)->oi.apart ops oj=true) ->
 (∀ d∈D,(∃ o,ops[d]?=some o/\∃ e∈o.after,Region.binds md e=true/\(e.on=i\/e.on∈D))/\listed.getD d true=false) ->
 i∈Region.ready md ops listed->YieldsIf P ops S oi v a->S w ->
 ey P md ops Q S T fuel (listed.setIfInBounds i true) (a.put oi.dst v) w->ey P md ops Q S T (fuel+1) listed a w:=by
 intro fuel;induction fuel with
 | zero=>
  intro listed a w _ hD hr hy hS H;refine⟨fun h=>(by rw[h]at hr;cases hr),fun j hj=>?_⟩;by_cases hji:j=i
  ·subst hji;exact hy.wpOp hi hS ⟨fun _=>hS,H⟩
  ·have:=ready_mono hj hji;rw[H.1]at this;cases this
 | succ fuel ih=>
  intro listed a w hfree hD hr hy hS H;have hi0:listed.getD i true=false:=by
   obtain⟨h0,-⟩:=mem_ready.1 hr;exact h0
  refine⟨fun h=>(by rw[h]at hr;cases hr),fun j hj=>?_⟩;by_cases hji:j=i
  ·subst hji;exact hy.wpOp hi hS ⟨fun _=>hS,H⟩
  ·have h1:=H.2 j (ready_mono hj hji);obtain⟨hjun,oj,hoj,hall⟩:=mem_ready.1 hj;have hnot:∀ e∈oj.after,Region.binds md e=true->e.on≠i:=fun e he hb heq=>by
    have h1:=hall e he hb;have h0:=(mem_ready.1 hr).1;rw[heq]at h1;rcases Nat.lt_or_ge i listed.size with h' | h'
    ·simp[h']at h0 h1;rw[h0]at h1;cases h1
    ·simp[Array.getElem?_eq_none h']at h1
   have hjD:j ∉ D:=qk hD hi0 hj;have hiD:i ∉ D:=qk hD hi0 hr;have h2:=wpOp_putIf hoj (hfree j oj hoj hji hjun hnot) (fun cs b=>hsel i oi cs b hi) (fun cs b=>hsel j oj cs b hoj) hQ hy h1;have hfree':∀ k ok,ops[k]?=some ok->k≠i->(listed.setIfInBounds j true).getD k true=false ->
    (∀ e∈ok.after,Region.binds md e=true->e.on≠i)->oi.apart ops ok=true:=fun k ok hk hki hun hno=>by
    refine hfree k ok hk hki ?_ hno;by_cases hjk:j=k
    ·subst hjk;exact hjun
    ·rw[getD_set_ne true hjk]at hun;exact hun
   have hD':∀ d∈D,(∃ o,ops[d]?=some o/\∃ e∈o.after,Region.binds md e=true/\(e.on=i\/e.on∈D))/\(listed.setIfInBounds j true).getD d true=false:=fun d hd=>by
    refine⟨(hD d hd).1,?_⟩;have:j≠d:=fun e=>hjD (e ▸ hd);rw[getD_set_ne true this];exact(hD d hd).2
   have hu:fj T (((listed.setIfInBounds i true)).setIfInBounds j true)=true:=Ee hTD (fun d hd=>by
    have:i≠d:=fun e=>hiD (e ▸ hd);rw[getD_set_ne true this];exact(hD d hd).2) hjD
   refine wpOp_mono (fun a' w' h3=>⟨fun _=>h3.2.1 hu,ih (listed.setIfInBounds j true) a' w' hfree' hD' (ready_mono hr (Ne.symm hji)) h3.1 (h3.2.1 hu) ?_⟩) h2;rw[Array.setIfInBounds_comm _ _ hji];exact h3.2.2
theorem ay{oi:Oper}{fuel:Nat}{listed:Array Bool}{a:Act}(D:List Nat)(hi:ops[i]?=some oi)(hs:Region.noSelect ops=true)(hf:Region.free md ops listed i=true)(hr:(Region.ready md ops listed).contains i=true)(hB:tJ md ops listed i T D=true)(hQ:∀ c a w,Q (.panic c) (a.put oi.dst v) w->Q (.panic c) a w)(hy:YieldsIf P ops S oi v a)(hS:S w)(h:ey P md ops Q S T fuel (listed.setIfInBounds i true) (a.put oi.dst v) w):ey P md ops Q S T (fuel+1) listed a w:=by
 unfold tJ at hB;rw[Bool.and_eq_true,List.all_eq_true,List.all_eq_true]at hB;refine tz (D:=D) hi (Region.noSelect_spec hs) hQ (fun t ht=>by simpa using hB.2 t ht) fuel listed a w (Region.free_spec hi hf) (fun d hd=>?_) (by simpa using hr) hy hS h;have h1:=hB.1 d hd;rw[Bool.and_eq_true]at h1;refine⟨?_,by simpa using h1.2⟩;cases ho:ops[d]? with
 | none=>rw[ho]at h1;simp at h1
 | some o=>
  rw[ho]at h1;have h2:=h1.1;simp only[Array.any_eq_true]at h2;obtain⟨k,hk,h3⟩:=h2;refine⟨o,rfl,o.after[k],Array.getElem_mem hk,?_⟩;simpa using h3
def ct (P:Program) (md:Region.Mode) (ops:Array Oper) (Q:Exit->Act->World->Prop) (S:World->Prop) (T:List Nat) (fuel:Nat) (listed:Array Bool) (a:Act) (w:World) (rs:List Nat):Prop:=
 ∀ i∈rs,wpOp P ops Q i (fun a' w'=>(fj T (listed.setIfInBounds i true)=true->S w')/\ey P md ops Q S T fuel (listed.setIfInBounds i true) a' w') a w
theorem ct.nil{fuel}{listed:Array Bool}{a}:ct P md ops Q S T fuel listed a w []:=fun _ h=>by cases h
theorem ct.cons{fuel:Nat}{listed:Array Bool}{a:Act}{o:Oper}{rs:List Nat}(ho:ops[i]?=some o)(h:∀ K':Act->World->Prop,Shut (∀ a w,S w->(S w->ey P md ops Q S T fuel (listed.setIfInBounds i true) a w)->K' a w)->if Region.wanted o (yielded ops a.tmps)=true then Oper.wp P o a w K' Q else K' (a.put o.dst undef) w)(hs:ct P md ops Q S T fuel listed a w rs):ct P md ops Q S T fuel listed a w (i :: rs):=fun j hj=>by
 rcases List.mem_cons.1 hj with rfl | hj
 ·exact wpOp_step ho (fun K' hK=>h K' (fun a w hS hW=>hK a w ⟨fun _=>hS,hW hS⟩))
 ·exact hs j hj
theorem fy{rs fuel}{listed:Array Bool}{a}(hr:Region.ready md ops listed=rs)(hne:rs≠[])(h:ct P md ops Q S T fuel listed a w rs):ey P md ops Q S T (fuel+1) listed a w:=⟨fun h0=>absurd (hr ▸ h0) hne,hr ▸ h⟩
theorem dF{o:Oper}{fuel:Nat}{listed:Array Bool}{a:Act}(hr:Region.ready md ops listed=[i])(hu:fj T (listed.setIfInBounds i true)=false)(ho:ops[i]?=some o)(h:∀ K':Act->World->Prop,Shut (∀ a w,ey P md ops Q S T fuel (listed.setIfInBounds i true) a w->K' a w)->if Region.wanted o (yielded ops a.tmps)=true then Oper.wp P o a w K' Q else K' (a.put o.dst undef) w):ey P md ops Q S T (fuel+1) listed a w:=by
 refine⟨fun h0=>(by rw[hr]at h0;cases h0),fun j hj=>?_⟩;rw[hr,List.mem_singleton]at hj;subst hj;exact wpOp_step ho (fun K' hK=>h K' (fun a w hW=>hK a w ⟨fun h=>absurd h (by rw[hu];simp),hW⟩))
theorem gw{listed:Array Bool}{a}(hr:Region.ready md ops listed=[])(h:Q .normal a w):∀ fuel,ey P md ops Q S T fuel listed a w
 | 0=>⟨hr,h⟩
 | _+1=>⟨fun _=>h,by rw[hr];simp⟩
theorem aD{id a}(S:World->Prop)(T)(hm:P.follows .mixedOrders=true)(hS:S w.drew)(h:S w.drew->ey P .any ops Q S T ops.size (Array.replicate ops.size false) a w.drew):(Code.region id ops true).wp P Q a w:=
 wp_region_any hm (qu _ _ _ _ (h hS))
end
end
section
open Go
section
variable {P:Program} {ops:Array Oper} {Q:Exit->Act->World->Prop} {md:Region.Mode} {S:World->Prop} {T:List Nat}
theorem qx{listed:Array Bool}{T}(h:fj T (listed.setIfInBounds i true)=true):fj T listed=true:=by
 unfold fj at h ⊢;rw[List.all_eq_true]at h ⊢;intro t ht;have h0:=h t ht;by_cases e:i=t
 ·subst e;by_cases hs:i < listed.size
  ·simp[Array.getD,hs]at h0
  ·simp[Array.getD,hs]at h0
 ·rw[getD_set_ne true e]at h0;exact h0
theorem Cv{listed:Array Bool}{T}(hi:i ∉ T)(h:fj T listed=true):fj T (listed.setIfInBounds i true)=true:=by
 unfold fj at h ⊢;rw[List.all_eq_true]at h ⊢;intro t ht;have e:i≠t:=fun e=>hi (e ▸ ht);rw[getD_set_ne true e];exact h t ht
theorem rm{oi:Oper}(hi:ops[i]?=some oi)(hsel:∀ (j:Nat) (o:Oper) cs b,ops[j]?=some o->o.op≠.select cs b)(hQ:∀ c a w,Q (.panic c) (a.put oi.dst v) w->Q (.panic c) a w)(hiT:i ∉ T):∀ (fuel:Nat) (listed:Array Bool) (a:Act) (w:World),
 (∀ j oj,ops[j]?=some oj->j≠i->listed.getD j true=false->(∀ e∈oj.after,Region.binds md e=true->e.on≠i)->oi.apart ops oj=true) ->
 i∈Region.ready md ops listed->Yields P ops oi v a->(fj T listed=true->S w) ->
 ey P md ops Q S T fuel (listed.setIfInBounds i true) (a.put oi.dst v) w->ey P md ops Q S T (fuel+1) listed a w:=by
 intro fuel;induction fuel with
 | zero=>
  intro listed a w _ hr hy hS H;refine⟨fun h=>(by rw[h]at hr;cases hr),fun j hj=>?_⟩;by_cases hji:j=i
  ·subst hji;exact hy.wpOp hi ⟨fun h=>hS (qx h),H⟩
  ·have:=ready_mono hj hji;rw[H.1]at this;cases this
 | succ fuel ih=>
  intro listed a w hfree hr hy hS H;refine⟨fun h=>(by rw[h]at hr;cases hr),fun j hj=>?_⟩;by_cases hji:j=i
  ·subst hji;exact hy.wpOp hi ⟨fun h=>hS (qx h),H⟩
  ·have h1:=H.2 j (ready_mono hj hji);obtain⟨hjun,oj,hoj,hall⟩:=mem_ready.1 hj;have hnot:∀ e∈oj.after,Region.binds md e=true->e.on≠i:=fun e he hb heq=>by
    have h1:=hall e he hb;have h0:=(mem_ready.1 hr).1;rw[heq]at h1;rcases Nat.lt_or_ge i listed.size with h' | h'
    ·simp[h']at h0 h1;rw[h0]at h1;cases h1
    ·simp[Array.getElem?_eq_none h']at h1
   have h2:=wpOp_put hoj (hfree j oj hoj hji hjun hnot) (fun cs b=>hsel i oi cs b hi) (fun cs b=>hsel j oj cs b hoj) hQ hy h1;have hfree':∀ k ok,ops[k]?=some ok->k≠i->(listed.setIfInBounds j true).getD k true=false ->
    (∀ e∈ok.after,Region.binds md e=true->e.on≠i)->oi.apart ops ok=true:=fun k ok hk hki hun hno=>by
    refine hfree k ok hk hki ?_ hno;by_cases hjk:j=k
    ·subst hjk;exact hjun
    ·rw[getD_set_ne true hjk]at hun;exact hun
   refine wpOp_mono (fun a' w' h3=>?_) h2;have hs:fj T (listed.setIfInBounds j true)=true->S w':=fun h=>h3.2.1 (by rw[Array.setIfInBounds_comm _ _ (Ne.symm hji)];exact Cv hiT h);refine⟨hs,ih (listed.setIfInBounds j true) a' w' hfree' (ready_mono hr (Ne.symm hji)) h3.1 hs ?_⟩;rw[Array.setIfInBounds_comm _ _ hji];exact h3.2.2
theorem gP{oi:Oper}{fuel}{listed:Array Bool}{a}(hi:ops[i]?=some oi)(hs:Region.noSelect ops=true)(hf:Region.free md ops listed i=true)(hr:(Region.ready md ops listed).contains i=true)(hT:T.contains i=false)(hQ:∀ c a w,Q (.panic c) (a.put oi.dst v) w->Q (.panic c) a w)(hy:Yields P ops oi v a)(hS:S w)(h:ey P md ops Q S T fuel (listed.setIfInBounds i true) (a.put oi.dst v) w):ey P md ops Q S T (fuel+1) listed a w:=
 rm hi (Region.noSelect_spec hs) hQ (by simpa using hT) fuel listed a w (Region.free_spec hi hf) (by simpa using hr) hy (fun _=>hS) h
end
end
variable {d:Nat}
section
open Go
section
variable {P:Program} {ops:Array Oper} {Q:Exit->Act->World->Prop} {md:Region.Mode} {S:World->Prop} {T:List Nat}
theorem av(l:List Value)(d:List Deferred)(i:Nat)(v):Act.put ⟨l.toArray,d⟩ (some i) v=⟨(l.set i v).toArray,d⟩:=by
 simp[Act.put]
structure WT (P:Program) (md:Region.Mode) (ops:Array Oper) (Q:Exit->Act->World->Prop) (S:World->Prop) (T:List Nat) (fuel:Nat) (listed:Array Bool) (a:Act) (w:World):Prop where
 out:ey P md ops Q S T fuel listed a w
structure WR (P:Program) (md:Region.Mode) (ops:Array Oper) (Q:Exit->Act->World->Prop) (S:World->Prop) (T:List Nat) (fuel:Nat) (listed:Array Bool) (a:Act) (w:World) (rs:List Nat):Prop where
 out:ct P md ops Q S T fuel listed a w rs
theorem tk{oi:Oper}{fuel}{listed:Array Bool}{a}(D)(hi:ops[i]?=some oi)(hd:oi.dst=some d)(hc:(Region.noSelect ops&&Region.free md ops listed i&&(Region.ready md ops listed).contains i&&tJ md ops listed i T D)=true)(hw:Region.wanted oi (yielded ops a.tmps)=true)(hQ:∀ c a w,Q (.panic c) (a.put (some d) v) w->Q (.panic c) a w)(hS:S w)(hy:∀ w,S w->(execOp a.eval oi).run P w=.ok (.value v) w)(h:WT P md ops Q S T fuel (listed.setIfInBounds i true) (a.put (some d) v) w):WT P md ops Q S T (fuel+1) listed a w:=by
 simp only[Bool.and_eq_true]at hc;rw[<-hd]at hQ h;exact⟨ay D hi hc.1.1.1 hc.1.1.2 hc.1.2 hc.2 hQ (.inl ⟨hw,hy⟩) hS h.out⟩
theorem OJ(i v){oi:Oper}{fuel}{listed:Array Bool}{a}(D)(hS:S w)(hy:∀ w,S w->(execOp a.eval oi).run P w=.ok (.value v) w)(h:WT P md ops Q S T fuel (listed.setIfInBounds i true) (a.put (some d) v) w)(hi:ops[i]?=some oi:=by rfl)(hd:oi.dst=some d:=by rfl)(hc:(Region.noSelect ops&&Region.free md ops listed i&&(Region.ready md ops listed).contains i&&tJ md ops listed i T D)=true:=by decide +kernel)(hw:Region.wanted oi (yielded ops a.tmps)=true:=by rfl)(hQ:∀ c a w,Q (.panic c) (a.put (some d) v) w->Q (.panic c) a w:=by exact fun _ _ _ h=>h):WT P md ops Q S T (fuel+1) listed a w:=tk D hi hd hc hw hQ hS hy h
theorem JY{oi:Oper}{fuel}{listed:Array Bool}{a}(hi:ops[i]?=some oi)(hd:oi.dst=some d)(hc:(Region.noSelect ops&&Region.free md ops listed i&&(Region.ready md ops listed).contains i&&!T.contains i)=true)(hw:Region.wanted oi (yielded ops a.tmps)=true)(hQ:∀ c a w,Q (.panic c) (a.put (some d) v) w->Q (.panic c) a w)(hS:S w)(hy:∀ w,(execOp a.eval oi).run P w=.ok (.value v) w)(h:WT P md ops Q S T fuel (listed.setIfInBounds i true) (a.put (some d) v) w):WT P md ops Q S T (fuel+1) listed a w:=by
 simp only[Bool.and_eq_true,Bool.not_eq_true']at hc;rw[<-hd]at hQ h;exact⟨gP hi hc.1.1.1 hc.1.1.2 hc.1.2 hc.2 hQ (.inl ⟨hw,hy⟩) hS h.out⟩
theorem Pm(i v){oi:Oper}{fuel}{listed:Array Bool}{a}(hS:S w)(hy:∀ w,(execOp a.eval oi).run P w=.ok (.value v) w)(h:WT P md ops Q S T fuel (listed.setIfInBounds i true) (a.put (some d) v) w)(hi:ops[i]?=some oi:=by rfl)(hd:oi.dst=some d:=by rfl)(hc:(Region.noSelect ops&&Region.free md ops listed i&&(Region.ready md ops listed).contains i&&!T.contains i)=true:=by decide +kernel)(hw:Region.wanted oi (yielded ops a.tmps)=true:=by rfl)(hQ:∀ c a w,Q (.panic c) (a.put (some d) v) w->Q (.panic c) a w:=by exact fun _ _ _ h=>h):WT P md ops Q S T (fuel+1) listed a w:=JY hi hd hc hw hQ hS hy h
theorem Lm{oi:Oper}{fuel}{listed:Array Bool}{a}(D)(hi:ops[i]?=some oi)(hd:oi.dst=some d)(hc:(Region.noSelect ops&&Region.free md ops listed i&&(Region.ready md ops listed).contains i&&tJ md ops listed i T D)=true)(hw:Region.wanted oi (yielded ops a.tmps)=false)(hQ:∀ c a w,Q (.panic c) (a.put (some d) undef) w->Q (.panic c) a w)(hS:S w)(h:WT P md ops Q S T fuel (listed.setIfInBounds i true) (a.put (some d) undef) w):WT P md ops Q S T (fuel+1) listed a w:=by
 simp only[Bool.and_eq_true]at hc;rw[<-hd]at hQ h;exact⟨ay D hi hc.1.1.1 hc.1.1.2 hc.1.2 hc.2 hQ (.inr ⟨hw,rfl⟩) hS h.out⟩
theorem gc(rs){fuel}{listed:Array Bool}{a}(hr:(Region.ready md ops listed == rs&&!rs.isEmpty)=true)(h:WR P md ops Q S T fuel listed a w rs):WT P md ops Q S T (fuel+1) listed a w:=by
 rw[Bool.and_eq_true,beq_iff_eq]at hr;exact⟨fy hr.1 (by intro e;rw[e]at hr;simp at hr) h.out⟩
theorem nl{fuel}{listed:Array Bool}{a}:WR P md ops Q S T fuel listed a w []:=⟨ct.nil⟩
theorem ip{fuel:Nat}{listed:Array Bool}{a:Act}{o:Oper}{rs:List Nat}(ho:ops[i]?=some o)(h:∀ K':Act->World->Prop,Shut (∀ a w,S w->(S w->WT P md ops Q S T fuel (listed.setIfInBounds i true) a w)->K' a w)->if Region.wanted o (yielded ops a.tmps)=true then Oper.wp P o a w K' Q else K' (a.put o.dst undef) w)(hs:WR P md ops Q S T fuel listed a w rs):WR P md ops Q S T fuel listed a w (i :: rs):=
 ⟨ct.cons ho (fun K' hK=>h K' (fun a w hS hW=>hK a w hS fun h=>(hW h).out)) hs.out⟩
theorem jZ{o:Oper}{fuel:Nat}{listed:Array Bool}{a:Act}(hr:(Region.ready md ops listed == [i]&&!fj T (listed.setIfInBounds i true))=true)(ho:ops[i]?=some o)(h:∀ K':Act->World->Prop,Shut (∀ a w,WT P md ops Q S T fuel (listed.setIfInBounds i true) a w->K' a w)->if Region.wanted o (yielded ops a.tmps)=true then Oper.wp P o a w K' Q else K' (a.put o.dst undef) w):WT P md ops Q S T (fuel+1) listed a w:=by
 rw[Bool.and_eq_true,beq_iff_eq,Bool.not_eq_true']at hr;exact⟨dF hr.1 hr.2 ho (fun K' hK=>h K' (fun a w hW=>hK a w hW.out))⟩
theorem OL(rs){fuel}{listed:Array Bool}{a}(h:WR P md ops Q S T fuel listed a w rs)(hr:(Region.ready md ops listed == rs&&!rs.isEmpty)=true:=by decide +kernel):WT P md ops Q S T (fuel+1) listed a w:=gc rs hr h
theorem ON(i){fuel}{listed:Array Bool}{a}{o:Oper}{rs}(h:∀ K':Act->World->Prop,Shut (∀ a w,S w->(S w->WT P md ops Q S T fuel (listed.setIfInBounds i true) a w)->K' a w)->if Region.wanted o (yielded ops a.tmps)=true then Oper.wp P o a w K' Q else K' (a.put o.dst undef) w)(hs:WR P md ops Q S T fuel listed a w rs)(ho:ops[i]?=some o:=by rfl):WR P md ops Q S T fuel listed a w (i :: rs):=ip ho h hs
theorem OO(i){o:Oper}{fuel}{listed:Array Bool}{a}(h:∀ K':Act->World->Prop,Shut (∀ a w,WT P md ops Q S T fuel (listed.setIfInBounds i true) a w->K' a w)->if Region.wanted o (yielded ops a.tmps)=true then Oper.wp P o a w K' Q else K' (a.put o.dst undef) w)(hr:(Region.ready md ops listed == [i]&&!fj T (listed.setIfInBounds i true))=true:=by decide +kernel)(ho:ops[i]?=some o:=by rfl):WT P md ops Q S T (fuel+1) listed a w:=jZ hr ho h
theorem dn{listed:Array Bool}{a fuel}(hr:Region.ready md ops listed=[])(h:Q .normal a w):WT P md ops Q S T fuel listed a w:=⟨gw hr h fuel⟩
end
end
end Go.Proofs.YtgolnaencepejaaGreatDoor
