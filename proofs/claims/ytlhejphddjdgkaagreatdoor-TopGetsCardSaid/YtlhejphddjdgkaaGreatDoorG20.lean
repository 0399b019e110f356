import Derived.Test.YtlhejphddjdgkaaGreatDoorG18
set_option maxRecDepth 100000
set_option maxHeartbeats 40000000
set_option linter.unusedSimpArgs false
set_option linter.unusedVariables false
namespace Go.Proofs.YtlhejphddjdgkaaGreatDoor
open Go.RowKit
open _root_.Go.Proofs.Tryz
theorem iD(b){ty:TypeId}{f:Nat × Nat}:∀ (vs:List Value) (o:Nat) (w:LC) (cur:Array Value),w.heap[b]?=some (.cells cur ty f)->o+vs.length<=cur.size->(w.setCells b o vs).heap[b]?=some (.cells (cur.toList.take o++vs++cur.toList.drop (o+vs.length)).toArray ty f)
 | [],o,w,cur,h,hl=>by
  simp only[World.setCells,List.append_nil,List.length_nil,Nat.add_zero,List.take_append_drop];exact h
 | v :: vs,o,w,cur,h,hl=>by
  simp only[My]at hl;have h1:=iD b vs (o+1) (w.setCell ⟨b,o,none⟩ v) (cur.setIfInBounds o v) (ak h o v) (by rw[Array.size_setIfInBounds];omega);rw[World.setCells,h1,Array.toList_setIfInBounds,list_seg_step cur.toList o v vs (by simpa using hl),My]
theorem A8{P:Program}(w)(t e ty:TypeId)(z cs)(ht:P.underlying t=some (.slice e))(hv:∀ w,(zeroValue e).run P w=.ok z w)(hz:z.cells=cs.toArray)(h1:∀ v∈cs,v.oneCell'=true)(b o c)(hc:∀ j,j < cs.length->(w.cell? ⟨b,o+j,none⟩).isSome=true)(hf:∀ j,j < cs.length->w.frozen? ⟨b,o+j,none⟩=false):(Builtin.clear_ #[t] ty #[.slice (some ⟨b,o,none⟩) 1 c]).run P w=.ok (.tuple #[]) (w.setCells b o cs):=by
 have hzc:(Builtin.zeroCells z.cells 1).toList=cs:=by
  rw[hz];simp[Builtin.zeroCells];apply List.ext_getElem
  ·simp
  ·intro k h1 h2;simp[Nat.mod_eq_of_lt h2,Mw h2]
 have hst:=run_storeCells_cells (P:=P) b o cs 0 w (by simpa using hc) (by simpa using hf) h1;simp only[Nat.add_zero]at hst;simp[Builtin.clear_,run_underlying ht,hv,hzc,hst]
def rn:List Value:=[.string ⟨#[]⟩,.int .i64 0,.int .i64 0,.string ⟨#[]⟩,.slice none 0 0,.slice none 0 0,.slice none 0 0,.int .i64 0,.int .i64 0,.string ⟨#[]⟩,.string ⟨#[]⟩,.int .i64 0,.int .i64 0,.int .i64 0,.int .i64 0]
theorem yp(L0:List (List Value))(i):(L0.eraseIdx i).flatten=(L0.take i).flatten++(L0.drop (i+1)).flatten:=by
 rw[List.eraseIdx_eq_take_drop_succ,List.flatten_append]
theorem Dh(w:LC)(B:Nat)(ok ths)(g cap i j:Nat)(hj:j=i+1)(h:dm w B ok ths (.slice (some ⟨g,0,none⟩) ths.length cap))(hg:¬ok g)(hi:i < ths.length):Calls prog 46 #[.slice (some ⟨g,0,none⟩) ths.length cap,.int .i64 i,.int .i64 j] w fun e w'=>e=.returned (.slice (some ⟨g,0,none⟩) (ths.length - 1) cap)/\dm w' B ok (ths.eraseIdx i) (.slice (some ⟨g,0,none⟩) (ths.length - 1) cap)/\w.grownBy w' (some g):=by
 obtain⟨L0,h1,h2,h3⟩:=h;have h15:=dm.fifteen h1 h3;rcases h2.2 with⟨e,-⟩ | ⟨g',cap',cur,e,k1,k2,k3,k4,k5,k6⟩
 ·cases e
 cases e;unfold maxLen at k4;have LT:=fY L0 h15;obtain⟨news,hnews⟩:∃ news,news=L0.flatten.drop (j * 15):=⟨_,rfl⟩
 have hnl:news.length=(ths.length - j) * 15:=by rw[hnews,MB,LT,h1];omega
 have hone:∀ u∈L0.flatten,u.oneCell'=true:=by
  intro u hu;obtain⟨c,hc,hu⟩:=List.mem_flatten.1 hu;obtain⟨k,hk,rfl⟩:=List.getElem_of_mem hc;obtain⟨_,_,_,_,_,_,e,-⟩:=h3 k (ths[k]'(by omega)) L0[k] (Mw (by omega)) (Mw hk);rw[e]at hu;exact jS _ _ _ _ _ _ _ u hu
 have LV:∀ (W:LC) (cr:Array Value),W.heap[g]?=some (.cells cr 37 (0,0))->∀ k,W.cell? ⟨g,k,none⟩=cr[k]?:=fun W cr hW k=>by simp[World.cell?,hW]
 have hfz:∀ (W:LC) (cr:Array Value),W.heap[g]?=some (.cells cr 37 (0,0))->∀ k,W.frozen? ⟨g,k,none⟩=false:=fun W cr hW k=>by simp[World.frozen?,hW]
 obtain⟨AD,hAD,hsrc⟩:∃ AD:Addr,(if cap=j then some (⟨g,0,none⟩:Addr) else some ⟨g,j * 15,none⟩)=some AD/\Ll (∀ k u,news[k]?=some u->w.drew.cell? (AD.add k)=some u):=by
  by_cases hcap:cap=j
  ·refine⟨⟨g,0,none⟩,by simp[hcap],aa fun k u hu=>?_⟩;have h0:news.length=0:=by rw[hnl];omega
   rw[List.length_eq_zero_iff.1 h0]at hu;simp at hu
  ·refine⟨⟨g,j * 15,none⟩,by simp[hcap],aa fun k u hu=>?_⟩;rw[hnews,List.getElem?_drop,<-k6,List.getElem?_take]at hu;split at hu
   ·rw[Addr.add_lit];show w.cell? _=_;rw[LV w cur k2];simpa using hu
   ·cases hu
 obtain⟨W1,hW1⟩:∃ W1,W1=w.drew.setCells g (0+i * 15) news:=⟨_,rfl⟩
 have hb1:W1.heap[g]?=some (.cells (cur.toList.take (i * 15)++news++cur.toList.drop (i * 15+news.length)).toArray 37 (0,0)):=by
  rw[hW1,Nat.zero_add];exact iD g news (i * 15) w.drew cur k2 (by rw[hnl,k5];have:(i+(ths.length - j)) * 15<=cap * 15:=Nat.mul_le_mul_right _ (by omega);rw[Nat.add_mul]at this;exact this)
 have hn1:i+(ths.length - j)=ths.length - 1:=by omega
 have hl1:(cur.toList.take (i * 15)++news++cur.toList.drop (i * 15+news.length)).length=cap * 15:=by
  have a1:i * 15<=cap * 15:=Nat.mul_le_mul_right _ (by omega);have a2:(i+(ths.length - j)) * 15<=cap * 15:=Nat.mul_le_mul_right _ (by omega);rw[Nat.add_mul]at a2;simp only[Mx,MC,MB,Array.length_toList,hnl,k5];omega
 obtain⟨i0,hi0,hz0,hz1⟩:∃ j,prog.info? 37=some j/\j.zero=some (.agg rn.toArray)/\j.size=15:=by
  have h9:=Sb;cases e:prog.info? 37 with
  | none=>rw[e]at h9;cases h9
  | some j=>
   rw[e]at h9;simp only[Option.map_some,Option.some.injEq,Prod.mk.injEq]at h9;exact⟨j,rfl,h9.1,h9.2.1⟩
 have hzv:∀ w,(zeroValue 37).run prog w=.ok (.agg rn.toArray) w:=fun w=>by
  first | rfl | kernel_rfl | (simp[zeroValue,go_sem];rfl) | (simp[zeroValue,go_sem,Tryz.t37,rn])
 have hcl:∀ ty,(Builtin.clear_ #[27] ty #[.slice (some ⟨g,(i+(ths.length - j)) * 15,none⟩) (ths.length - (i+(ths.length - j))) (cap - (i+(ths.length - j)))]).run prog W1=.ok (.tuple #[]) (W1.setCells g ((i+(ths.length - j)) * 15) rn):=fun ty=>by
  rw[show ths.length - (i+(ths.length - j))=1 by omega];refine A8 W1 _ 37 ty (.agg rn.toArray) rn (by kernel_rfl) hzv (by simp[Value.cells,rn]) (by decide) g _ _ (fun k hk=>?_) (fun k hk=>hfz W1 _ hb1 _);have a2:(i+(ths.length - j)) * 15+15<=cap * 15:=by
   have:(i+(ths.length - j)+1) * 15<=cap * 15:=Nat.mul_le_mul_right _ (by omega);omega
  have hk':k < 15:=hk;rw[LV W1 _ hb1,Array.getElem?_eq_getElem (by simp only[List.size_toArray];rw[hl1];omega)];rfl
 have hfin:Ll (dm (W1.setCells g ((i+(ths.length - j)) * 15) rn) B ok (ths.eraseIdx i) (.slice (some ⟨g,0,none⟩) (ths.length - 1) cap)/\w.grownBy (W1.setCells g ((i+(ths.length - j)) * 15) rn) (some g)):=aa (by
  have hgb1:w.grownBy W1 (some g):=by rw[hW1];exact am (oD (az w _)) (jz g _ _ _)
  have hgb:w.grownBy (W1.setCells g ((i+(ths.length - j)) * 15) rn) (some g):=am hgb1 (jz g _ _ _);refine⟨?_,hgb⟩;have a2:(i+(ths.length - j)) * 15+15<=cap * 15:=by
   have:(i+(ths.length - j)+1) * 15<=cap * 15:=Nat.mul_le_mul_right _ (by omega);omega
  have hb2:=iD g rn ((i+(ths.length - j)) * 15) W1 _ hb1 (by simp only[List.size_toArray];rw[hl1];exact a2);have hel:(ths.eraseIdx i).length=ths.length - 1:=by rw[List.length_eraseIdx,if_pos hi]
  have hce:(L0.eraseIdx i).length=ths.length - 1:=by rw[List.length_eraseIdx,if_pos (by omega),h1]
  refine⟨L0.eraseIdx i,by rw[hce,hel],?_,?_⟩
  ·rw[hel];have h15e:∀ c∈L0.eraseIdx i,c.length=15:=fun c hc=>h15 c (List.mem_of_mem_eraseIdx hc);refine⟨by rw[fY _ h15e,hce],.inr ⟨g,cap,_,rfl,k1,hb2,by omega,by unfold maxLen;exact k4,?_,?_⟩⟩
   ·simp only[List.size_toArray,Mx,MC,MB,hl1];have:rn.length=15:=rfl;rw[this];omega
   ·simp only[List.toList_toArray];have e1:(ths.length - 1) * 15=(i+(ths.length - j)) * 15:=by rw[hn1]
    have a3:(i+(ths.length - j)) * 15<=(cur.toList.take (i * 15)++news++cur.toList.drop (i * 15+news.length)).length:=by rw[hl1];omega
    rw[e1,List.append_assoc,List.take_append_of_le_length (by rw[MC];omega),List.take_take,Nat.min_self];have e2:(cur.toList.take (i * 15)++news).length=(i+(ths.length - j)) * 15:=by
     have a1:i * 15<=cap * 15:=Nat.mul_le_mul_right _ (by omega);rw[Mx,MC,Array.length_toList,hnl,k5,Nat.add_mul];omega
    rw[List.take_append_of_le_length (by omega),MD (by omega),yp,hnews,mF L0 j h15,hj,<-nd L0 i h15,<-k6,List.take_take,Nat.min_eq_left (by omega)]
  ·intro k x cs hx hc;have hk9:∀ k,ok k->some k≠some g:=fun k hk e=>by cases e;exact hg hk
   rw[List.getElem?_eraseIdx]at hx hc;split at hx
   ·rename_i hki;rw[if_pos hki]at hc;obtain⟨a,b,c,d,oa,oc,e,k⟩:=h3 k x cs hx hc;exact⟨a,b,c,d,oa,oc,e,k.gr hgb hk9⟩
   ·rename_i hki;rw[if_neg hki]at hc;obtain⟨a,b,c,d,oa,oc,e,k⟩:=h3 (k+1) x cs hx hc;exact⟨a,b,c,d,oa,oc,e,k.gr hgb hk9⟩)
 have s1:Ll (news.length=(ths.length - j) * 15):=aa hnl;have s2:Ll (∀ u∈news,u.oneCell'=true):=aa fun u hu=>hone u (by rw[hnews]at hu;exact List.mem_of_mem_drop hu);have s3:Ll (∀ t,t < news.length->(w.drew.cell? ⟨g,0+i * 15+t,none⟩).isSome=true/\w.drew.frozen? ⟨g,0+i * 15+t,none⟩=false):=aa (by
  intro t ht;rw[hnl]at ht;refine⟨?_,hfz w cur k2 _⟩;show (w.cell? _).isSome=true;have a2:(i+(ths.length - j)) * 15<=cap * 15:=Nat.mul_le_mul_right _ (by omega);rw[Nat.add_mul]at a2;rw[LV w cur k2,Array.getElem?_eq_getElem (by rw[k5];omega)];rfl)
 have hW:Ll (W1=w.drew.setCells g (0+i * 15) news):=aa hW1;have HI0:=aa hi0;have HZ1:=aa hz1;have hi1:j<=ths.length:=by omega
 have hic:i<=cap:=by omega
 have hjc:j<=cap:=by omega
 have hne:((i:Int) == (j:Int))=false:=by rw[MO];omega
 have q1:(0:Int)<=(i:Int):=by omega
 have q2:(i:Int)<=(j:Int):=by omega
 have q3:(j:Int)<=(ths.length:Int):=by omega
 have q4:(ths.length:Int)<=(cap:Int):=by omega
 clear hb1 hl1 hnl hone LV hfz hnews hzv h3 h15 h2 k2 k5 k6 LT hW1 hi0 hz0 hz1 h1;have y1:¬ths.length=i:=by omega
 have y2:¬cap=i+(ths.length - j):=by omega
 have y3:i+(ths.length - j)<=ths.length:=by omega
 have y4:¬ths.length=i+(ths.length - j):=by omega
 have y5:i+(ths.length - j)<=cap:=by omega
 have HJ:=aa hj;have HIL:=aa hi;clear hj hi hn1;have mixed:prog.follows .mixedOrders=true:=by kernel_rfl
 go_enter func46,ntmps46;go_upto_region 5 with fail
 go_region_law (refine step_append_room rfl (.tmp 22) (.tmp 25) 27 rfl 37 i0 15 (by kernel_rfl) HI0.o HZ1.o g 0 i cap (by simp[Act.eval,Act.put]) AD (ths.length - j) (cap - j) news (by simp[Act.eval,Act.put]) s1.o hsrc.o s2.o (by have:=HJ.o;have:=HIL.o;omega) s3.o ?_;rw[<-hW.o])
 go_wp2
 go_ret;exact⟨by rw[show ths.length - 1=i+(ths.length - j) by have:=HJ.o;have:=HIL.o;omega];rfl,hfin.o⟩
def oA (s:Nu) (i:Nat) (t:Th):Nu × uf:=({ s with ths:=s.ths.eraseIdx i },⟨0,t.ver,[]⟩)
theorem BM(w:LC)(ok)(S:Nat)(v)(st:Nu)(i:Nat)(t)(h:bo w ok S v st)(ht:st.ths[i]?=some t)(h8:st.ths.length<=8):Calls prog 27 #[.pointer (some ⟨S,0,none⟩),.int .i64 i] w fun e w'=>∃ v',e=.returned (fX (oA st i t).2)/\bo w' (Fa ok w.heap.size S v') S v' (oA st i t).1/\v'.ownBlock=v.ownBlock/\kS w w' S v:=by
 obtain⟨W1,hW1⟩:∃ W,W=w.alloc (.cells #[.int .i64 0,.int .i64 0,.string ⟨#[]⟩] 42):=⟨_,rfl⟩
 have Y1:Ll (La w W1):=aa (by rw[hW1];exact ae _ _);have RB:Ll (dK W1 w.heap.size 0 0 []):=aa (by rw[hW1];exact MN _ _);have HW1:=aa hW1;have S1:=aa (h.low.bel Y1.o);have HNE:=aa (fun g (hg:v.ownBlock=some g)=>h.ne hg);have SLT:Ll (S < w.heap.size):=aa h.blk.lt;have hi:=(Mz.1 ht).1;obtain⟨g,cap,rfl,hgB,hgl,hlc,hc9,hf,Mb,a,b,c,d,oa,oc,hcl,hk⟩:=S1.o.row.at ht;have GL:Ll (S < g/\g < w.heap.size):=aa (HNE.o g rfl);have q1:(0:Int)<=(i:Int):=by omega
 have q2:(i:Int) < (st.ths.length:Int):=by omega
 have hw1:IntKind.i64.wrap ((i:Int)+1)=((i+1:Nat):Int):=by rw[IntKind.wrap_i64];omega
 obtain⟨j,hj⟩:∃ j,j=i+1:=⟨_,rfl⟩
 rw[<-hj]at hw1;have DEL:=aa (Dh W1 (S+1) _ st.ths g cap i j hj S1.o.row (fun hk=>(S1.o.no g hk).2 rfl) hi);have t7:W1.cell? ⟨g,i * 15+7,none⟩=some (.int .i64 t.ver):=hcl 7 _ rfl;clear hW1 h ht hcl hk hf Mb hgB hgl hj;obtain⟨s0,s1,s2,s3⟩:=S1.o.blk.c;go_enter func27,ntmps27;go_upto_region 1 with fail
 rw[<-HW1.o];go_upto_region 2 with fail
 go_upto_region 3 with (go_at_call 46;refine DEL.o.mono ?_;rintro e w3 ⟨rfl,h1,hb⟩;have G3:=aa hb;have T3:=aa h1;clear h1 hb;obtain⟨s0,s1,s2,s3⟩:=(S1.o.blk.gr G3.o (by intro e;cases e;have:=GL.o;omega)).c;obtain⟨f0,f1,f2,f3⟩:=(S1.o.blk.gr G3.o (by intro e;cases e;have:=GL.o;omega)).f)
 clear f0 f1 f2 f3 t7;have SB3:=aa (S1.o.blk.gr G3.o (by intro e;cases e;have:=GL.o;omega));obtain⟨W4,hW4⟩:∃ W,W=w3.setCell ⟨S,0,none⟩ (.slice (some ⟨g,0,none⟩) (st.ths.length - 1) cap):=⟨_,rfl⟩
 have G4:Ll (w3.grownBy W4 (some S)):=aa (by rw[hW4];exact ap (az _ _) _ _);have SB4:Ll (eF W4 S (.slice (some ⟨g,0,none⟩) (st.ths.length - 1) cap) st.time st.ver st.acts):=aa (by rw[hW4];exact ak SB3.o 0 _);rw[<-hW4];clear hW4;have S4:Ll (bo W4 (Lj ok w) S (.slice (some ⟨g,0,none⟩) (st.ths.length - 1) cap) { st with ths:=st.ths.eraseIdx i }):=aa ⟨SB4.o,T3.o.gr G4.o (fun k hk e=>by cases e;exact(S1.o.no S hk).1 rfl) (fun k hk e=>by have h5:some g=some k:=hk;cases e;cases h5;have:=GL.o;omega),fun k hk=>S1.o.no k hk⟩;have F4:=aa (((eE (S:=S) (v:=.slice (some ⟨g,0,none⟩) st.ths.length cap) Y1.o).gb G3.o (.inr (.inl rfl))).gb G4.o (.inl rfl));have RB4:Ll (dK W4 w.heap.size 0 0 []):=aa ((G4.o.block _ (MI (MF.1 RB.o).1 G3.o.size) (by intro e;cases e;exact Nat.lt_irrefl _ SLT.o)).trans ((G3.o.block _ (MF.1 RB.o).1 (by intro e;cases e;exact Nat.lt_irrefl _ GL.o.2)).trans RB.o));have n0_:=RB4.o.c;have Z9:=aa (RB4.o.set ⟨0,t.ver,[]⟩);have S9:=aa ((S4.o.new (a:=w) (cE _ _ ⟨0,t.ver,[]⟩) SLT.o (fun k hk=>by cases hk;exact GL.o.2) (MG _)).o);have F9:=aa (F4.o.gb (cE W4 w.heap.size ⟨0,t.ver,[]⟩) (.inr (.inr (MG _))));go_wp2
 have z0_:=Z9.o.c;refine MM (v:=.agg #[.int .i64 0,.int .i64 t.ver,.string ⟨#[]⟩]) ?_ rfl ?_
 ·simp only[fE]at z0_;simp[results,results27,go_sem,z0_]
 ·exact⟨rfl,_,S9.o,rfl,F9.o⟩
end Go.Proofs.YtlhejphddjdgkaaGreatDoor
