/- Whatever it is handed, OwnerHas answers true and leaves all as it was.
   Its conditions: what it is handed is of bulk at most 1048576 (values and letters); the listed package-level variables hold what the program's text lays (the card ties them, over a pruned copy of the project). -/
import Derived.Test.YtmdemcjmcnfjmaaGreatDoorGEg
import Derived.Test.YtmdemcjmcnfjmaaGreatDoorGOc
set_option linter.unusedSimpArgs false
set_option linter.unusedVariables false
namespace Go.Proofs.YtmdemcjmcnfjmaaGreatDoor
open Go.RowKit
theorem ownerHas_walk (w:World) (ok0:Nat->Prop) (d0:Nat) (t0:V) (v0:Value) (h0:VIs w ok0 d0 t0 v0) (_:siz t0<=2000000) (ok1:Nat->Prop) (l1:List Own) (v1:Value) (h1:OwnsAre w ok1 l1 v1) (hN:(allOf l1).length<=2000000) (hP:∀ o∈l1,∀ x∈o.paths,x.length<=140737488351232)
 (who:List UInt8) (hwho:who.length<=140737488351232) (ok3:Nat->Prop) (d3:Nat) (t3:V) (v3:Value) (h3:VIs w ok3 d3 t3 v3) (_:siz t3<=2000000) (force:Bool) (hG:Glob w) (hM:GlobM w) :
 Calls Tryz.prog 3 #[v0,v1,str who,v3,.bool force] w fun e w'=>e=.returned (.bool true)/\Below w.heap.size w w':=
 has_at w (fun _=>True) t0 t3 l1 who force v0 v1 v3 (h0.is.weak fun _ _=>trivial) (h1.weak fun _ _=>trivial) (h3.is.weak fun _ _=>trivial) hG hM hN hP (by omega)
end Go.Proofs.YtmdemcjmcnfjmaaGreatDoor
namespace Go.Proofs.YtmdemcjmcnfjmaaGreatDoor.ownerHas
open Go.ChangeShapes Go.WideShapes Go.ChangeAt Go.RowKit
open Go.ChangeMaps (open_string shut_string)
set_option maxRecDepth 100000 in
theorem contract (H:Type) (enc:TypeId × Value->H) (W:World) (base:Nat) (args:Array Value) (ds gs:List (DataW H)) (before:List MemPlace)
 (hval:∀ (j:Nat) t v,Tryz.f3.params[j]?=some t->args[j]?=some v->Value.okWide Tryz.prog W .any base t v)
 (hW:DataW.Whole enc Tryz.prog Tryz.f3.params.toList Rows.ownerHasSpec.vars false W args.toList ds gs before)
 (hk:Rows.uptoSmall H (ds++gs)=true) (hZ:(DataW.weightsEach Tryz.prog (Tryz.f3.params.toList++(OpenSpec.ofChange Rows.ownerHasSpec).bare.plain.varTypes Tryz.prog) (ds++gs)).all (·<=reachBytes)=true) (hL:laidMet Tryz.prog laidOw W) (hS:W.ShapedOpen Tryz.prog) :
 Calls Tryz.prog 3 args W fun e W'=>∃ v,e=.returned v/\Rows.ownerHasSpec.post enc Tryz.prog Tryz.f3 false true false false W args v W':=by
 have hW':=hW
 obtain⟨p,q,hA0,hV,rfl,hfz,hnd⟩:=hW
 have hA:DataW.TrodAll enc Tryz.prog W 0 (fun _=>true) true Tryz.f3.params.toList args.toList ds p:=hA0
 rw[Tryz.params3]at hA hval
 obtain⟨v0,vs0,d0,ds0,p0,q0,hargs0,rfl,rfl,h0,r0⟩:=trodAll_cons hA
 obtain⟨v1,vs1,d1,ds1,p1,q1,hargs1,rfl,rfl,h1,r1⟩:=trodAll_cons r0
 obtain⟨v2,vs2,d2,ds2,p2,q2,hargs2,rfl,rfl,h2,r2⟩:=trodAll_cons r1
 obtain⟨v3,vs3,d3,ds3,p3,q3,hargs3,rfl,rfl,h3,r3⟩:=trodAll_cons r2
 obtain⟨v4,vs4,d4,ds4,p4,q4,hargs4,rfl,rfl,h4,r4⟩:=trodAll_cons r3
 obtain⟨rfl,rfl,rfl⟩:=trodAll_nil r4
 subst hargs1
 subst hargs2
 subst hargs3
 subst hargs4
 have hargs:args=#[v0,v1,v2,v3,v4]:=by
  obtain⟨l⟩:=args
  exact congrArg Array.mk hargs0
 subst hargs
 obtain⟨rfl,rfl⟩:=trodVars_none hV
 have k0:Value.okWide Tryz.prog W .any base 25 v0:=hval 0 _ _ (by simp) (by simp)
 have k1:Value.okWide Tryz.prog W .any base 26 v1:=hval 1 _ _ (by simp) (by simp)
 have k2:Value.okWide Tryz.prog W .any base 9 v2:=hval 2 _ _ (by simp) (by simp)
 have k3:Value.okWide Tryz.prog W .any base 25 v3:=hval 3 _ _ (by simp) (by simp)
 have k4:Value.okWide Tryz.prog W .any base 4 v4:=hval 4 _ _ (by simp) (by simp)
 obtain⟨f0,t0,hv0,hz0⟩:=arg_bulk k0 h0
 obtain⟨os1,hv1,hz1⟩:=arg_owns k1 h1
 obtain⟨s2,rfl,rfl,rfl,ws2⟩:=open_string Tryz.underlying9 k2 h2
 obtain⟨f3,t3,hv3,hz3⟩:=arg_bulk k3 h3
 obtain⟨n4,rfl,rfl,rfl⟩:=open_bool Tryz.underlying4 k4 h4
 clear hA0
 simp only[List.append_nil]at hW'
 have hb:=bulk_bound hk
 simp only[List.append_nil,Rows.uptoBulkAll]at hb
 have b0:siz t0<=2000000:=by omega
 have b3:siz t3<=2000000:=by omega
 have l2:s2.data.toList.length<=140737488351232:=sized_string (j:=2) hZ (by rw[Tryz.params3];rfl) rfl
 have e2:Value.string s2=str s2.data.toList:=by unfold str;cases s2;simp
 have y1:(allOf os1).length<=2000000:=by have:=allOf_sum os1;omega
 have z1:∀ o∈os1,∀ x∈o.paths,x.length<=140737488351232:=fun o ho x hx=>by have:=path_sum ho hx;omega
 have walk:=ownerHas_walk W (fun _=>True) f0 t0 v0 hv0 b0 (fun _=>True) os1 v1 hv1 y1 z1 s2.data.toList l2 (fun _=>True) f3 t3 v3 hv3 b3 n4 (glob_ow hL) (glob_pt hS)
 rw[<-e2]at walk
 refine walk.mono fun e W' ⟨he,hg⟩=>?_
 subst he
 have ef:Rows.ownerHasSpec.fn H ([d0,d1,.lit (.string s2.data.toList),d3,.lit (.bool n4)]++[])={ results:=[.lit (.bool true)],args:=[d0,d1,.lit (.string s2.data.toList),d3,.lit (.bool n4)] }:=rfl
 refine⟨_,rfl,_,_,_,[],(p0++(p1++([]++(p3++([]++[]))))),[],hW',?_,?_,?_,hg.frame _,fun h=>by cases h⟩
 ·rw[ef];exact trodAll_mk1 (shut_bool Tryz.underlying4 _)
 ·rw[ef,Tryz.params3];exact trodAll_cons_mk (Below.trod laidOut readableV rowedV h0 hg (trod_old h0)) (trodAll_cons_mk (Below.trod laidOut readableW rowedW h1 hg (trod_old h1)) (trodAll_cons_mk (shut_string Tryz.underlying9 ws2) (trodAll_cons_mk (Below.trod laidOut readableV rowedV h3 hg (trod_old h3)) (trodAll_cons_mk (shut_bool Tryz.underlying4 n4) (trodAll_mk0)))))
 ·rw[ef];rfl
set_option maxRecDepth 100000 in
theorem reads (os:Os) {H:Type} (enc:TypeId × Value->H):∃ places,DataW.whole enc Tryz.prog ((owWorld os).forCall (fun _ _=>0) ⟨#[],#[.agg #[.int .i64 0,.int .i64 0,.string ⟨#[]⟩,.slice none 0 0,.slice none 0 0],.slice none 0 0,.string ⟨#[]⟩,.agg #[.int .i64 0,.int .i64 0,.string ⟨#[]⟩,.slice none 0 0,.slice none 0 0],.bool false],[]⟩).memory Tryz.f3.params.toList Rows.ownerHasSpec.vars false #[Value.agg #[.int .i64 0,.int .i64 0,.string ⟨#[]⟩,.slice none 0 0,.slice none 0 0],Value.slice none 0 0,Value.string ⟨#[]⟩,Value.agg #[.int .i64 0,.int .i64 0,.string ⟨#[]⟩,.slice none 0 0,.slice none 0 0],Value.bool false].toList 8=some ([.agg [.lit (.int .i64 0),.lit (.int .i64 0),.lit (.string []),.nil,.nil],.nil,.lit (.string []),.agg [.lit (.int .i64 0),.lit (.int .i64 0),.lit (.string []),.nil,.nil],.lit (.bool false)],[],places):=
 ⟨[],by kernel_rfl⟩
set_option maxRecDepth 100000 in
theorem lifted (os:Os) (started:os.Started) (H:Type) (enc:TypeId × Value->H) (F:Stop.Interp) :
 ReturnsInHanded {} Tryz.checked os 3 .any ((Rows.OpenSpec.upto Rows.ownerHasSpec).preRow enc Tryz.prog Tryz.f3 Rows.ownerHasUptoRow.domain false Rows.ownerHasUptoRow.laid) (((Rows.OpenSpec.upto Rows.ownerHasSpec).at F).post enc Tryz.prog Tryz.f3 false true false false):=by
 obtain⟨places,hx⟩:=reads os enc
 refine returnsInHanded_of_row (C:=Tryz.checked) (s:=Rows.OpenSpec.upto Rows.ownerHasSpec) own started (by kernel_rfl) Tryz.func3
  (witness_row_at (enc:=enc) (C:=Tryz.checked) false (owWorld os) #[.agg #[.int .i64 0,.int .i64 0,.string ⟨#[]⟩,.slice none 0 0,.slice none 0 0],.slice none 0 0,.string ⟨#[]⟩,.agg #[.int .i64 0,.int .i64 0,.string ⟨#[]⟩,.slice none 0 0,.slice none 0 0],.bool false] rfl (by kernel_rfl) (by kernel_rfl) (by kernel_rfl)
   (OpenSpec.preRow_of_cond 8 hx (by kernel_rfl) (fun k hk=>by cases hk;kernel_rfl) (by kernel_rfl) (ow_met os _))) ?_
 intro W base args ds gs before hval hW _ hc hZ hL hS _
 exact contract H enc W base args ds gs before hval hW (hc _ rfl) hZ hL hS
theorem said:Rows.OwnerHasUptoSaid:=
 OpenClaim.holds_of_cond 3 Tryz.f3 rfl rfl rfl rfl rfl rfl rfl ⟨rfl,rfl,rfl,rfl,rfl⟩ rfl rfl rfl rfl rfl (by kernel_rfl) Tryz.func3 (by kernel_rfl)
  (of_decide_eq_true (by kernel_rfl)) (by unfold Func.isWrapper;first | (rw[if_pos (by decide +kernel)];kernel_rfl) | (rw[if_neg (by decide +kernel)];exact⟨rfl,rfl⟩))
  (fun os started H enc _ F=>by rw[OpenClaim.pre_eq_preRow];exact lifted os started H enc F)
theorem plain (f:FuncId) (fn:Func) (hf:Tryz.pinned.checked.prog.funcNamed "stairwell/stairwellkeep.OwnerHas"=some f) (hfn:Tryz.pinned.checked.prog.funcs[f]?=some fn) :
 true=Tryz.pinned.checked.prog.looks []/\∀ (j:Nat) t,fn.params[j]?=some t->Tryz.pinned.checked.prog.wantsStandIn t=false:=by
 obtain rfl:f=3:=Option.some.inj ((show Tryz.prog.funcNamed "stairwell/stairwellkeep.OwnerHas"=some 3 by kernel_rfl).symm.trans hf) |>.symm
 obtain rfl:fn=Tryz.f3:=(Option.some.inj (Tryz.func3.symm.trans hfn)).symm
 refine⟨by kernel_rfl,fun j t ht=>?_⟩
 rw[Tryz.params3]at ht
 have hm:=Array.mem_of_getElem? ht
 simp only[Array.mem_def,List.mem_cons,List.not_mem_nil,or_false]at hm
 rcases hm with rfl | rfl | rfl | rfl | rfl
 ·exact(show Tryz.prog.wantsStandIn 25=false by kernel_rfl)
 ·exact(show Tryz.prog.wantsStandIn 26=false by kernel_rfl)
 ·exact(show Tryz.prog.wantsStandIn 9=false by kernel_rfl)
 ·exact(show Tryz.prog.wantsStandIn 25=false by kernel_rfl)
 ·exact(show Tryz.prog.wantsStandIn 4=false by kernel_rfl)
theorem card:Rows.OwnerHasUptoCardSaid:=
 Claim7.holds_tied_plain_at .later [] _ _ _ _ said (fun _ h=>by cases h) (by kernel_rfl) (fun _ h=>by cases h) ownerHasUpto_row_tie rfl ⟨rfl,rfl⟩ (by kernel_rfl) rfl plain (by kernel_rfl)
end Go.Proofs.YtmdemcjmcnfjmaaGreatDoor.ownerHas
