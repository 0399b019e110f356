/- Whatever it is handed, OwnerTellsUpto answers true and leaves all as it was. Its conditions: a text or a list takes at most 2^47 - 4096 bytes; the listed package-level variables hold what the program's text lays (the card ties them, over a pruned copy of the project). -/
import Derived.Test.YtbdlfclnkpofaaaGreatDoorG19
set_option maxRecDepth 100000
set_option maxHeartbeats 40000000
set_option linter.unusedSimpArgs false
set_option linter.unusedVariables false
namespace Go.Proofs.YtbdlfclnkpofaaaGreatDoor.ownerTells
open Go.ChangeShapes Go.WideShapes Go.ChangeAt Go.RowKit
open Go.ChangeMaps (open_string shut_string)
theorem mf(H:Type)(enc:TypeId × Value->H)(W:World)(base:Nat)(args:Array Value)(ds gs:List (DataW H))(before:List MemPlace)(hval:∀ (j:Nat) t v,Tryz.f4.params[j]?=some t->args[j]?=some v->Value.okWide Tryz.prog W .any base t v)(hW:DataW.Whole enc Tryz.prog Tryz.f4.params.toList Rows.ownerTellsSpec.vars false W args.toList ds gs before)(hk:Rows.uptoSmall H (ds++gs)=true)(hZ:(DataW.weightsEach Tryz.prog (Tryz.f4.params.toList++(OpenSpec.ofChange Rows.ownerTellsSpec).bare.plain.varTypes Tryz.prog) (ds++gs)).all (·<=reachBytes)=true)(hL:laidMet Tryz.prog F9 W)(hS:W.ShapedOpen Tryz.prog):Calls Tryz.prog 4 args W fun e W'=>∃ v,e=.returned v/\Rows.ownerTellsSpec.post enc Tryz.prog Tryz.f4 false true false false W args v W':=by
 have hW':=hW;obtain⟨p,q,hA0,hV,rfl,hfz,hnd⟩:=hW;have hA:DataW.TrodAll enc Tryz.prog W 0 (fun _=>true) true Tryz.f4.params.toList args.toList ds p:=hA0;rw[Tryz.params4]at hA hval;obtain⟨v0,vs0,d0,ds0,p0,q0,hargs0,rfl,rfl,h0,r0⟩:=trodAll_cons hA;obtain⟨v1,vs1,d1,ds1,p1,q1,hargs1,rfl,rfl,h1,r1⟩:=trodAll_cons r0;obtain⟨v2,vs2,d2,ds2,p2,q2,hargs2,rfl,rfl,h2,r2⟩:=trodAll_cons r1;obtain⟨v3,vs3,d3,ds3,p3,q3,hargs3,rfl,rfl,h3,r3⟩:=trodAll_cons r2;obtain⟨rfl,rfl,rfl⟩:=trodAll_nil r3;subst hargs1;subst hargs2;subst hargs3;have hargs:args=#[v0,v1,v2,v3]:=by
  obtain⟨l⟩:=args;exact congrArg Array.mk hargs0
 subst hargs;obtain⟨rfl,rfl⟩:=trodVars_none hV;have k0:Value.okWide Tryz.prog W .any base 25 v0:=hval 0 _ _ (by simp) (by simp);have k1:Value.okWide Tryz.prog W .any base 26 v1:=hval 1 _ _ (by simp) (by simp);have k2:Value.okWide Tryz.prog W .any base 9 v2:=hval 2 _ _ (by simp) (by simp);have k3:Value.okWide Tryz.prog W .any base 25 v3:=hval 3 _ _ (by simp) (by simp);obtain⟨f0,t0,hv0,hz0⟩:=DP k0 h0;obtain⟨os1,hv1,hz1⟩:=Sn k1 h1;obtain⟨s2,rfl,rfl,rfl,ws2⟩:=open_string Tryz.underlying9 k2 h2;obtain⟨f3,t3,hv3,hz3⟩:=DP k3 h3;clear hA0;simp only[List.append_nil]at hW';have hb:=KT hk;simp only[List.append_nil,Rows.uptoBulkAll]at hb;have b0:FV t0<=2000000:=by omega
 have b3:FV t3<=2000000:=by omega
 have l2:s2.data.toList.length<=140737488351232:=sized_string (j:=2) hZ (by rw[Tryz.params4];rfl) rfl;have e2:Value.string s2=aR s2.data.toList:=by unfold aR;cases s2;simp
 have y1:(bA os1).length<=2000000:=by have:=O6 os1;omega
 have z1:∀ o∈os1,∀ x∈o.paths,x.length<=140737488351232:=fun o ho x hx=>by have:=Sx ho hx;omega
 have x1:os1.length<=2000000:=by have:=NO os1;omega
 have walk:=qc W (fun _=>True) f0 t0 v0 hv0 b0 (fun _=>True) os1 v1 hv1 y1 z1 x1 s2.data.toList l2 (fun _=>True) f3 t3 v3 hv3 b3 (Th hL) (zS hS);rw[<-e2]at walk;refine walk.mono fun e W' ⟨he,hg⟩=>?_;subst he;have ef:Rows.ownerTellsSpec.fn H ([d0,d1,.lit (.string s2.data.toList),d3]++[])={ results:=[.lit (.bool true)],args:=[d0,d1,.lit (.string s2.data.toList),d3] }:=rfl;refine⟨_,rfl,_,_,_,[],(p0++(p1++([]++(p3++[])))),[],hW',?_,?_,?_,hg.frame _,fun h=>by cases h⟩
 ·rw[ef];exact trodAll_mk1 (shut_bool Tryz.underlying4 _)
 ·rw[ef,Tryz.params4];exact trodAll_cons_mk (Below.trod oI Uf SY h0 hg (lK h0)) (trodAll_cons_mk (Below.trod oI RS Tx h1 hg (lK h1)) (trodAll_cons_mk (shut_string Tryz.underlying9 ws2) (trodAll_cons_mk (Below.trod oI Uf SY h3 hg (lK h3)) (trodAll_mk0))))
 ·rw[ef];rfl
theorem sd(os:Os){H:Type}(enc:TypeId × Value->H):∃ places,DataW.whole enc Tryz.prog ((yd os).forCall (fun _ _=>0) ⟨#[],#[.agg #[.int .i64 0,.int .i64 0,.string ⟨#[]⟩,.slice none 0 0,.slice none 0 0],.slice none 0 0,.string ⟨#[]⟩,.agg #[.int .i64 0,.int .i64 0,.string ⟨#[]⟩,.slice none 0 0,.slice none 0 0]],[]⟩).memory Tryz.f4.params.toList Rows.ownerTellsSpec.vars false #[Value.agg #[.int .i64 0,.int .i64 0,.string ⟨#[]⟩,.slice none 0 0,.slice none 0 0],Value.slice none 0 0,Value.string ⟨#[]⟩,Value.agg #[.int .i64 0,.int .i64 0,.string ⟨#[]⟩,.slice none 0 0,.slice none 0 0]].toList 8=some ([.agg [.lit (.int .i64 0),.lit (.int .i64 0),.lit (.string []),.nil,.nil],.nil,.lit (.string []),.agg [.lit (.int .i64 0),.lit (.int .i64 0),.lit (.string []),.nil,.nil]],[],places):=
 ⟨[],by kernel_rfl⟩
theorem xX(os:Os)(started:os.Started)(H:Type)(enc:TypeId × Value->H)(F:Stop.Interp):ReturnsInHanded {} Tryz.checked os 4 .any ((Rows.OpenSpec.upto Rows.ownerTellsSpec).preRow enc Tryz.prog Tryz.f4 Rows.ownerTellsUptoRow.domain false Rows.ownerTellsUptoRow.laid) (((Rows.OpenSpec.upto Rows.ownerTellsSpec).at F).post enc Tryz.prog Tryz.f4 false true false false):=by
 obtain⟨places,hx⟩:=sd os enc;refine returnsInHanded_of_row (C:=Tryz.checked) (s:=Rows.OpenSpec.upto Rows.ownerTellsSpec) G9 started (by kernel_rfl) Tryz.func4
  (witness_row_at (enc:=enc) (C:=Tryz.checked) false (yd os) #[.agg #[.int .i64 0,.int .i64 0,.string ⟨#[]⟩,.slice none 0 0,.slice none 0 0],.slice none 0 0,.string ⟨#[]⟩,.agg #[.int .i64 0,.int .i64 0,.string ⟨#[]⟩,.slice none 0 0,.slice none 0 0]] rfl (by kernel_rfl) (by kernel_rfl) (by kernel_rfl)
   (OpenSpec.preRow_of_cond 8 hx (by kernel_rfl) (fun k hk=>by cases hk;kernel_rfl) (by kernel_rfl) (Tr os _))) ?_
 intro W base args ds gs before hval hW _ hc hZ hL hS _;exact mf H enc W base args ds gs before hval hW (hc _ rfl) hZ hL hS
theorem iZ:Rows.OwnerTellsUptoSaid:=
 OpenClaim.holds_of_cond 4 Tryz.f4 rfl rfl rfl rfl rfl rfl rfl ⟨rfl,rfl,rfl,rfl,rfl⟩ rfl rfl rfl rfl rfl (by kernel_rfl) Tryz.func4 (by kernel_rfl)
  (of_decide_eq_true (by kernel_rfl)) (by unfold Func.isWrapper;first | (rw[if_pos (by decide +kernel)];kernel_rfl) | (rw[if_neg (by decide +kernel)];exact⟨rfl,rfl⟩))
  (fun os started H enc _ F=>by rw[OpenClaim.pre_eq_preRow];exact xX os started H enc F)
theorem nD(f:FuncId)(fn:Func)(hf:Tryz.pinned.checked.prog.funcNamed "stairwell/stairwelllaw.OwnerTells"=some f)(hfn:Tryz.pinned.checked.prog.funcs[f]?=some fn):true=Tryz.pinned.checked.prog.looks []/\∀ (j:Nat) t,fn.params[j]?=some t->Tryz.pinned.checked.prog.wantsStandIn t=false:=by
 obtain rfl:f=4:=Option.some.inj ((show Tryz.prog.funcNamed "stairwell/stairwelllaw.OwnerTells"=some 4 by kernel_rfl).symm.trans hf) |>.symm
 obtain rfl:fn=Tryz.f4:=(Option.some.inj (Tryz.func4.symm.trans hfn)).symm;refine⟨by kernel_rfl,fun j t ht=>?_⟩;rw[Tryz.params4]at ht;have hm:=Array.mem_of_getElem? ht;simp only[Array.mem_def,List.mem_cons,List.not_mem_nil,or_false]at hm;rcases hm with rfl | rfl | rfl | rfl
 ·exact(show Tryz.prog.wantsStandIn 25=false by kernel_rfl)
 ·exact(show Tryz.prog.wantsStandIn 26=false by kernel_rfl)
 ·exact(show Tryz.prog.wantsStandIn 9=false by kernel_rfl)
 ·exact(show Tryz.prog.wantsStandIn 25=false by kernel_rfl)
theorem card:Rows.OwnerTellsUptoCardSaid:=
 Claim7.holds_tied_plain_at .later [] _ _ _ _ iZ (fun _ h=>by cases h) (by kernel_rfl) (fun _ h=>by cases h) ownerTellsUpto_row_tie rfl ⟨rfl,rfl⟩ (by kernel_rfl) rfl nD (by kernel_rfl)
end Go.Proofs.YtbdlfclnkpofaaaGreatDoor.ownerTells
