/- Whatever it is handed, OwnerLeaves answers true and leaves all as it was.
   Its conditions: a text or a list takes at most 2^47 - 4096 bytes; the listed package-level variables hold what the program's text lays (the card ties them, over a pruned copy of the project). -/
import Derived.Test.YtmdemcjmcnfjmaaGreatDoorGEi
import Derived.Test.YtmdemcjmcnfjmaaGreatDoorGOc
set_option linter.unusedSimpArgs false
set_option linter.unusedVariables false
namespace Go.Proofs.YtmdemcjmcnfjmaaGreatDoor
open Go.RowKit
theorem ownerLeaves_walk (w:World) (ok0:Nat->Prop) (d0:Nat) (t0:V) (v0:Value) (h0:VIs w ok0 d0 t0 v0) (hG:Glob w) (hM:GlobM w) :
 Calls Tryz.prog 5 #[v0] w fun e w'=>e=.returned (.bool true)/\Below w.heap.size w w':=
 leavesK_at w ok0 t0 v0 h0.is hG hM
end Go.Proofs.YtmdemcjmcnfjmaaGreatDoor
namespace Go.Proofs.YtmdemcjmcnfjmaaGreatDoor.ownerLeaves
open Go.ChangeShapes Go.WideShapes Go.ChangeAt Go.RowKit
open Go.ChangeMaps (open_string shut_string)
set_option maxRecDepth 100000 in
theorem contract (H:Type) (enc:TypeId × Value->H) (W:World) (base:Nat) (args:Array Value) (ds gs:List (DataW H)) (before:List MemPlace)
 (hval:∀ (j:Nat) t v,Tryz.f5.params[j]?=some t->args[j]?=some v->Value.okWide Tryz.prog W .any base t v)
 (hW:DataW.Whole enc Tryz.prog Tryz.f5.params.toList Rows.ownerLeavesSpec.vars false W args.toList ds gs before)
 (hZ:(DataW.weightsEach Tryz.prog (Tryz.f5.params.toList++(OpenSpec.ofChange Rows.ownerLeavesSpec).bare.plain.varTypes Tryz.prog) (ds++gs)).all (·<=reachBytes)=true) (hL:laidMet Tryz.prog laidOw W) (hS:W.ShapedOpen Tryz.prog) :
 Calls Tryz.prog 5 args W fun e W'=>∃ v,e=.returned v/\Rows.ownerLeavesSpec.post enc Tryz.prog Tryz.f5 false true false false W args v W':=by
 have hW':=hW
 obtain⟨p,q,hA0,hV,rfl,hfz,hnd⟩:=hW
 have hA:DataW.TrodAll enc Tryz.prog W 0 (fun _=>true) true Tryz.f5.params.toList args.toList ds p:=hA0
 rw[Tryz.params5]at hA hval
 obtain⟨v0,vs0,d0,ds0,p0,q0,hargs0,rfl,rfl,h0,r0⟩:=trodAll_cons hA
 obtain⟨rfl,rfl,rfl⟩:=trodAll_nil r0
 have hargs:args=#[v0]:=by
  obtain⟨l⟩:=args
  exact congrArg Array.mk hargs0
 subst hargs
 obtain⟨rfl,rfl⟩:=trodVars_none hV
 have k0:Value.okWide Tryz.prog W .any base 25 v0:=hval 0 _ _ (by simp) (by simp)
 obtain⟨f0,t0,hv0,hz0⟩:=arg_bulk k0 h0
 clear hA0
 simp only[List.append_nil]at hW'
 have walk:=ownerLeaves_walk W (fun _=>True) f0 t0 v0 hv0 (glob_ow hL) (glob_pt hS)
 refine walk.mono fun e W' ⟨he,hg⟩=>?_
 subst he
 have ef:Rows.ownerLeavesSpec.fn H ([d0]++[])={ results:=[.lit (.bool true)],args:=[d0] }:=rfl
 refine⟨_,rfl,_,_,_,[],(p0++[]),[],hW',?_,?_,?_,hg.frame _,fun h=>by cases h⟩
 ·rw[ef];exact trodAll_mk1 (shut_bool Tryz.underlying4 _)
 ·rw[ef,Tryz.params5];exact trodAll_cons_mk (Below.trod laidOut readableV rowedV h0 hg (trod_old h0)) (trodAll_mk0)
 ·rw[ef];rfl
set_option maxRecDepth 100000 in
theorem reads (os:Os) {H:Type} (enc:TypeId × Value->H):∃ places,DataW.whole enc Tryz.prog ((owWorld os).forCall (fun _ _=>0) ⟨#[],#[.agg #[.int .i64 0,.int .i64 0,.string ⟨#[]⟩,.slice none 0 0,.slice none 0 0]],[]⟩).memory Tryz.f5.params.toList Rows.ownerLeavesSpec.vars false #[Value.agg #[.int .i64 0,.int .i64 0,.string ⟨#[]⟩,.slice none 0 0,.slice none 0 0]].toList 8=some ([.agg [.lit (.int .i64 0),.lit (.int .i64 0),.lit (.string []),.nil,.nil]],[],places):=
 ⟨[],by kernel_rfl⟩
set_option maxRecDepth 100000 in
theorem lifted (os:Os) (started:os.Started) (H:Type) (enc:TypeId × Value->H) (F:Stop.Interp) :
 ReturnsInHanded {} Tryz.checked os 5 .any ((OpenSpec.ofChange Rows.ownerLeavesSpec).preRow enc Tryz.prog Tryz.f5 Rows.ownerLeavesRow.domain false Rows.ownerLeavesRow.laid) (((OpenSpec.ofChange Rows.ownerLeavesSpec).at F).post enc Tryz.prog Tryz.f5 false true false false):=by
 obtain⟨places,hx⟩:=reads os enc
 refine returnsInHanded_of_row (C:=Tryz.checked) (s:=OpenSpec.ofChange Rows.ownerLeavesSpec) own started (by kernel_rfl) Tryz.func5
  (witness_row_at (enc:=enc) (C:=Tryz.checked) false (owWorld os) #[.agg #[.int .i64 0,.int .i64 0,.string ⟨#[]⟩,.slice none 0 0,.slice none 0 0]] rfl (by kernel_rfl) (by kernel_rfl) (by kernel_rfl)
   (OpenSpec.preRow_of_cond 8 hx (by kernel_rfl) (fun k hk=>by cases hk) (by kernel_rfl) (ow_met os _))) ?_
 intro W base args ds gs before hval hW _ _ hZ hL hS _
 exact contract H enc W base args ds gs before hval hW hZ hL hS
theorem said:Rows.OwnerLeavesSaid:=
 OpenClaim.holds_of_cond 5 Tryz.f5 rfl rfl rfl rfl rfl rfl rfl ⟨rfl,rfl,rfl,rfl,rfl⟩ rfl rfl rfl rfl rfl (by kernel_rfl) Tryz.func5 (by kernel_rfl)
  (of_decide_eq_true (by kernel_rfl)) (by unfold Func.isWrapper;first | (rw[if_pos (by decide +kernel)];kernel_rfl) | (rw[if_neg (by decide +kernel)];exact⟨rfl,rfl⟩))
  (fun os started H enc _ F=>by rw[OpenClaim.pre_eq_preRow];exact lifted os started H enc F)
theorem plain (f:FuncId) (fn:Func) (hf:Tryz.pinned.checked.prog.funcNamed "stairwell/stairwellkeep.OwnerLeaves"=some f) (hfn:Tryz.pinned.checked.prog.funcs[f]?=some fn) :
 true=Tryz.pinned.checked.prog.looks []/\∀ (j:Nat) t,fn.params[j]?=some t->Tryz.pinned.checked.prog.wantsStandIn t=false:=by
 obtain rfl:f=5:=Option.some.inj ((show Tryz.prog.funcNamed "stairwell/stairwellkeep.OwnerLeaves"=some 5 by kernel_rfl).symm.trans hf) |>.symm
 obtain rfl:fn=Tryz.f5:=(Option.some.inj (Tryz.func5.symm.trans hfn)).symm
 refine⟨by kernel_rfl,fun j t ht=>?_⟩
 rw[Tryz.params5]at ht
 have hm:=Array.mem_of_getElem? ht
 simp only[Array.mem_def,List.mem_cons,List.not_mem_nil,or_false]at hm
 subst hm
 exact(show Tryz.prog.wantsStandIn 25=false by kernel_rfl)
theorem card:Rows.OwnerLeavesCardSaid:=
 Claim7.holds_tied_plain_at .later [] _ _ _ _ said (fun _ h=>by cases h) (by kernel_rfl) (fun _ h=>by cases h) ownerLeaves_row_tie rfl ⟨rfl,rfl⟩ (by kernel_rfl) rfl plain (by kernel_rfl)
end Go.Proofs.YtmdemcjmcnfjmaaGreatDoor.ownerLeaves
