import Derived.Test.YtbdlfclnkpofaaaGreatDoorG9
import Derived.Test.YtbdlfclnkpofaaaGreatDoorG12
import Derived.Test.YtbdlfclnkpofaaaGreatDoorG14
set_option maxRecDepth 100000
set_option maxHeartbeats 40000000
set_option linter.unusedSimpArgs false
set_option linter.unusedVariables false
namespace Go.Proofs.YtbdlfclnkpofaaaGreatDoor
open Go.RowKit
open _root_.Go.Proofs.Tryz
theorem oB(w p q):Calls prog 62 #[.string ⟨p.toArray⟩,.string ⟨q.toArray⟩] w fun e w'=>e=.returned (.bool (aboveP p q))/\w'=w:=FL w p q
theorem Hm(w cz p gp)(hc:w.cell? ⟨gp,0,none⟩=some (.string ⟨p.toArray⟩)):Calls prog 61 #[.string ⟨cz.toArray⟩,.pointer (some ⟨gp,0,none⟩)] w fun e w'=>e=.returned (.bool (aboveP cz p || aboveP p cz))/\w'=w:=by
 have A1:=oB w cz p;have A2:=oB w p cz;generalize aboveP cz p=o1 at A1 ⊢;generalize aboveP p cz=o2 at A2 ⊢;cases o1 with
 | true=>
  go_enter func61,ntmps61;go_wp2_with fail
  refine A1.mono ?_;rintro e w1 ⟨rfl,hw⟩;have hw':=hw.symm;subst hw';clear hw A1 A2;go_wp2_with fail
  go_ret;exact⟨rfl,rfl⟩
 | false=>
  go_enter func61,ntmps61;go_wp2_with fail
  refine A1.mono ?_;rintro e w1 ⟨rfl,hw⟩;have hw':=hw.symm;subst hw';clear hw A1;go_wp2_with fail
  refine A2.mono ?_;rintro e w2 ⟨rfl,hw⟩;have hw':=hw.symm;subst hw';clear hw A2;go_wp2_with fail
  go_ret;exact⟨by first | rfl | (simp;done) | (simp;rfl),rfl⟩
theorem vG:∀ args w,(callFunc 61 args).run prog w=.ok (.enter 61 args) w:=enters_of func61 (by kernel_rfl) rfl
theorem Gb{LQ}(hk:LQ.kind=5)(hg:aE LQ=true):(au LQ).length < 4611686018427387904:=by
 have e:au LQ=ix ((jK 12 LQ).map aU):=if_pos ⟨hk,hg⟩;rw[e,(fU _).length_eq,List.length_map];have h1:=mB 12 LQ;have h2:=df LQ;have h3:=gE (dQ hg);omega
theorem Au:∀ (ns:List Lz) (v x:V),dr ns v=some x->bN x<=bN v
 | [],v,x,h=>by cases h;exact MG _
 | n :: ns,v,x,h=>by
  obtain⟨-,z,hm,hz⟩:=gB h;have h1:=Au ns z x hz;have h2:=pC (lG hm);have h3:=df v;omega
theorem Fe{v}(h:bN v<=2000000000000)(ns):bN ((dr ns v).getD aM)<=2000000000000:=by
 cases e:dr ns v with
 | none=>rw[Option.getD_none,df];simp[aM,cnts]
 | some x=>rw[Option.getD_some];exact MH (Au ns v x e) h
theorem tN(w:LC)(ok ok' LQ t L v vt p)(h:dB w ok LQ L v)(ht:In w ok' t vt)(hp:p.length<=140737488351232)(hM:bj w)(hc:bN t<=2000000000000)(hr:bD L)(hn:L.length < 4611686018427387904):Calls prog 29 #[v,vt,.string ⟨p.toArray⟩] w fun e w'=>e=.returned (.bool (aV LQ t L p))/\La w w':=by
 have HW:=aa h;have HT:=aa ht;have HM:=aa hM;obtain⟨a1,a2,a3,c1,c2,c3,rfl,h1,h2⟩:=h;have H2:=aa h2;obtain⟨b1,b2,d1,d2,rfl⟩:=ht.form;have HL:Ll (∀ W,La w W->Calls prog 58 #[.agg #[.int .i64 LQ.kind,.int .i64 LQ.n,.string ⟨LQ.s.toArray⟩,.slice a1 LQ.keys.length c1,.slice a2 LQ.l.length c2,.slice a3 L.length c3],.string ⟨p.toArray⟩] W fun e w'=>e=.returned (.bool (L.contains p))/\La W w'):=fun W hW=>pN W ok LQ L _ p (HW.o.bel hW) hr hn;have HO:Ll (∀ W,La w W->Calls prog 59 #[.agg #[.int .i64 LQ.kind,.int .i64 LQ.n,.string ⟨LQ.s.toArray⟩,.slice a1 LQ.keys.length c1,.slice a2 LQ.l.length c2,.slice a3 L.length c3],.agg #[.int .i64 t.kind,.int .i64 t.n,.string ⟨t.s.toArray⟩,.slice b1 t.keys.length d1,.slice b2 t.l.length d2],.string ⟨p.toArray⟩] W fun e w'=>e=.returned (.bool (fK LQ t p))/\La W w'):=fun W hW=>DV W ok ok' LQ t L _ _ p (HW.o.bel hW) (HT.o.bel hW) hp (HM.o.bel hW) (Fe hc _);have HC:Ll (∀ (W:LC) (gp:Nat),La w W->W.cell? ⟨gp,0,none⟩=some (.string ⟨p.toArray⟩)->Calls prog 60 #[.slice a3 L.length c3,.func (.func 61) #[] #[.pointer (some ⟨gp,0,none⟩)]] W fun e w'=>e=.returned (.bool (L.any fun q=>aboveP q p || aboveP p q))/\La W w'):=fun W gp hW hcl=>l9 W ok L _ _ _ _ (H2.o.imp fun a x h1 h2=>⟨h1,ah hW h2⟩) vG (fun W2 x hb _=>(Hm W2 x p gp (ah hb hcl)).mono fun e w' h=>⟨h.1,by rw[h.2];exact MK _ _⟩);have B3:Ll (∀ o1 o2 o3,La w (((w.alloc o1).alloc o2).alloc o3)):=fun o1 o2 o3=>ab (ab (ae _ _) (ae _ _)) (ae _ _);clear h1 h2 ht hM hc hr hn;have R:Ll (aV LQ t L p=if L.contains p then fK LQ t p else L.any fun q=>aboveP q p || aboveP p q):=aa rfl;generalize aV LQ t L p=o9 at R ⊢;generalize fK LQ t p=o1 at HO R;generalize (L.any fun q=>aboveP q p || aboveP p q)=o2 at HC R;obtain⟨W3,hW3⟩:∃ W,W=((w.alloc (.cells #[.int .i64 LQ.kind,.int .i64 LQ.n,.string ⟨LQ.s.toArray⟩,.slice a1 LQ.keys.length c1,.slice a2 LQ.l.length c2,.slice a3 L.length c3] 49)).alloc (.cells #[.int .i64 t.kind,.int .i64 t.n,.string ⟨t.s.toArray⟩,.slice b1 t.keys.length d1,.slice b2 t.l.length d2] 25)).alloc (.cells #[.string ⟨p.toArray⟩] 9):=⟨_,rfl⟩
 have BW:Ll (La w W3):=aa (by rw[hW3];exact B3.o _ _ _);have X1:Ll (W3.heap[w.heap.size]?=some (.cells #[.int .i64 LQ.kind,.int .i64 LQ.n,.string ⟨LQ.s.toArray⟩,.slice a1 LQ.keys.length c1,.slice a2 LQ.l.length c2,.slice a3 L.length c3] 49)):=aa (by rw[hW3];exact lI _ _ _ _);have X2:Ll (ag W3 (w.heap.size+1) (.int .i64 t.kind) (.int .i64 t.n) (.string ⟨t.s.toArray⟩) (.slice b1 t.keys.length d1) (.slice b2 t.l.length d2)):=aa (by rw[hW3];exact mE _ _ _ _);have X3:Ll (W3.cell? ⟨w.heap.size+2,0,none⟩=some (.string ⟨p.toArray⟩)):=aa (by
  have h9:W3.heap[w.heap.size+2]?=some (.cells #[.string ⟨p.toArray⟩] 9):=by rw[hW3];exact jI _ _ _ _
  simp[World.cell?,h9])
 have HW3:=aa hW3;clear hW3;have FX:Ll (∀ W,La W3 W->W.cell? ⟨w.heap.size+2,0,none⟩=some (.string ⟨p.toArray⟩)):=fun W hW=>ah hW X3.o;go_enter func29,ntmps29;go_upto_region 1 with fail
 rw[<-HW3.o];obtain⟨q0,q1,q2,q3,q4,q5⟩:=lr X1.o;have q6:=X3.o;cases hc:L.contains p with
 | true=>
  have R2:Ll (o9=o1):=aa (by rw[R.o,hc];rfl);have HL2:=aa (HL.o W3 BW.o);rw[hc]at HL2;clear hc;go_upto_region 2 with (go_at_call 58;refine HL2.o.mono ?_;rintro e w4 ⟨rfl,hb4⟩;have B4:=aa hb4;clear hb4 q0 q1 q2 q3 q4 q5 q6)
  have BW4:=aa (ab BW.o B4.o);obtain⟨q0,q1,q2,q3,q4,q5⟩:=lr (bR B4.o X1.o);have p0_:=(af B4.o X2.o).c;have q6:=FX.o _ B4.o;go_wp2_with (go_at_call 59;refine Lk (HO.o _ BW4.o) fun w5 hb5=>?_;have B5:=aa (ab BW4.o hb5);clear hb5)
  go_ret;exact⟨by rw[R2.o];rfl,B5.o⟩
 | false=>
  have R2:Ll (o9=o2):=aa (by rw[R.o,hc];rfl);have HL2:=aa (HL.o W3 BW.o);rw[hc]at HL2;clear hc;go_upto_region 3 with (go_at_call 58;refine HL2.o.mono ?_;rintro e w4 ⟨rfl,hb4⟩;have B4:=aa hb4;clear hb4 q0 q1 q2 q3 q4 q5 q6)
  have BW4:=aa (ab BW.o B4.o);obtain⟨q0,q1,q2,q3,q4,q5⟩:=lr (bR B4.o X1.o);have q6:=aa (FX.o _ B4.o);go_wp2_with (go_at_call 60;refine Lk (HC.o _ _ BW4.o q6.o) fun w5 hb5=>?_;have B5:=aa (ab BW4.o hb5);clear hb5)
  go_ret;exact⟨by rw[R2.o];rfl,B5.o⟩
theorem DB(w q p gp)(hc:w.cell? ⟨gp,0,none⟩=some (.string ⟨p.toArray⟩)):Calls prog 91 #[.string ⟨q.toArray⟩,.pointer (some ⟨gp,0,none⟩)] w fun e w'=>e=.returned (.bool (q == p || aboveP q p || aboveP p q))/\w'=w:=by
 have A1:=oB w q p;have A2:=oB w p q;generalize aboveP q p=o1 at A1 ⊢;generalize aboveP p q=o2 at A2 ⊢;cases hqp:q == p with
 | true=>
  have e1:((ByteArray.mk q.toArray) == (ByteArray.mk p.toArray))=true:=zN (by simpa using hqp);go_enter func91,ntmps91;go_wp2_with fail
  go_ret;exact⟨by first | done | rfl | simp,rfl⟩
 | false=>
  have e1:((ByteArray.mk q.toArray) == (ByteArray.mk p.toArray))=false:=Aq (by simpa using hqp);cases o1 with
  | true=>
   go_enter func91,ntmps91;go_wp2_with fail
   refine A1.mono ?_;rintro e w1 ⟨rfl,hw⟩;have hw':=hw.symm;subst hw';clear hw A1 A2;go_wp2_with fail
   go_ret;exact⟨by first | done | rfl | simp,rfl⟩
  | false=>
   go_enter func91,ntmps91;go_wp2_with fail
   refine A1.mono ?_;rintro e w1 ⟨rfl,hw⟩;have hw':=hw.symm;subst hw';clear hw A1;go_wp2_with fail
   refine A2.mono ?_;rintro e w2 ⟨rfl,hw⟩;have hw':=hw.symm;subst hw';clear hw A2;go_wp2_with fail
   go_ret;exact⟨by first | done | rfl | (simp;rfl),rfl⟩
theorem t8:∀ args w,(callFunc 91 args).run prog w=.ok (.enter 91 args) w:=enters_of func91 (by kernel_rfl) rfl
theorem tv:∀ args w,(callFunc 90 args).run prog w=.ok (.enter 90 args) w:=enters_of func90 (by kernel_rfl) rfl
theorem DU(w:LC)(ok)(o:aL)(pa)(pc:Nat)(p:Lz)(gp:Nat)(hs:ao w ok o.paths (.slice pa o.paths.length pc))(hc:w.cell? ⟨gp,0,none⟩=some (.string ⟨p.toArray⟩)):Calls prog 90 #[.agg #[.string ⟨o.name.toArray⟩,.slice pa o.paths.length pc],.pointer (some ⟨gp,0,none⟩)] w fun e w'=>e=.returned (.bool (o.paths.any fun q=>q == p || aboveP q p || aboveP p q))/\La w w':=by
 have ll:=hs.1;unfold maxLen at ll;have HC:Ll (∀ (W:LC),La w W->Calls prog 60 #[.slice pa o.paths.length pc,.func (.func 91) #[] #[.pointer (some ⟨gp,0,none⟩)]] W fun e w'=>e=.returned (.bool (o.paths.any fun q=>q == p || aboveP q p || aboveP p q))/\La W w'):=fun W hW=>l9 W ok o.paths _ _ _ _ (hs.imp fun a x h1 h2=>⟨h1,ah hW h2⟩) t8 (fun W2 x hb _=>(DB W2 x p gp (ah hb (ah hW hc))).mono fun e w' h=>⟨h.1,by rw[h.2];exact MK _ _⟩);generalize (o.paths.any fun q=>q == p || aboveP q p || aboveP p q)=o2 at HC ⊢;clear hs hc;go_enter func90,ntmps90;go_wp2_with (go_at_call 60;refine Lk (HC.o _ (ae _ _)) fun w5 hb5=>?_;have B5:=aa (ab (ae _ _) hb5);clear hb5)
 go_ret;exact⟨rfl,B5.o⟩
theorem tH(w ok l v p)(h:aB w ok l v):Calls prog 65 #[v,.string ⟨p.toArray⟩] w fun e w'=>e=.returned (.bool (concF l p))/\La w w':=by
 obtain⟨a,c,rfl⟩:=h.form;have ll:=h.1;unfold maxLen at ll;have HC:Ll (∀ (W:LC) (gp:Nat),La w W->W.cell? ⟨gp,0,none⟩=some (.string ⟨p.toArray⟩)->Calls prog 89 #[.slice a l.length c,.func (.func 90) #[] #[.pointer (some ⟨gp,0,none⟩)]] W fun e w'=>e=.returned (.bool (concF l p))/\La W w'):=fun W gp hW hcl=>sU W ok l _ _ _ _ (h.bel hW) tv (fun W2 x pa pc hb _ hs=>DU W2 ok x pa pc p gp hs (ah hb hcl));have CP:Ll ((w.alloc (.cells #[.string ⟨p.toArray⟩] 9)).cell? ⟨w.heap.size,0,none⟩=some (.string ⟨p.toArray⟩)):=aa (by
  have h9:=MN w (.cells #[.string ⟨p.toArray⟩] 9);generalize w.alloc (.cells #[.string ⟨p.toArray⟩] 9)=W2 at h9;simp[World.cell?,h9])
 generalize concF l p=o2 at HC ⊢;clear h;go_enter func65,ntmps65;go_wp2_with (go_at_call 89;refine Lk (HC.o _ _ (ae _ _) CP.o) fun w5 hb5=>?_;have B5:=aa (ab (ae _ _) hb5);clear hb5)
 go_ret;exact⟨rfl,B5.o⟩
variable {W w0:World}
variable {v:Value}
variable {g B n:Nat}
theorem Tv:(prog.info? 64).map (fun i=>(i.zero,i.size,i.bytes))=some (some (.agg #[.string ⟨#[]⟩,.string ⟨#[]⟩]),2,32):=by kernel_rfl
theorem Iq:(prog.info? 47).map (fun i=>(i.zero,i.size,i.bytes))=some (some (.agg #[.string ⟨#[]⟩,.slice none 0 0]),2,40):=by kernel_rfl
theorem Dl{cs nb k q}(ho:W.ownsRow B 64 2 v n cs)(hnb:W.heap[nb]?=some (.cells #[.string k,.string q] 64))(hn:n<=4000000)(hB:B<=W.heap.size)(ty:TypeId):∃ g cap W',(Builtin.append_ #[29,29] ty #[v,.slice (some ⟨nb,0,none⟩) 1 1]).run prog W=.ok (.slice (some ⟨g,0,none⟩) (n+1) cap) W'/\W'.ownsRow B 64 2 (.slice (some ⟨g,0,none⟩) (n+1) cap) (n+1) (cs++[.string k,.string q])/\W.grownBy W' v.ownBlock/\(v.ownBlock=some g\/W.heap.size=g):=by
 obtain⟨i0,hi,hz0,hz1,hz2⟩:=info_parts Tv;obtain⟨g,cap,W',hr,h1,h2,h3,-⟩:=run_append_lies (P:=prog) W 29 ty B 64 i0 _ 2 32 underlying29 hi hz0 hz1 hz2 rfl (by decide) v n cs ho ⟨nb,0,none⟩ 1 1 [.string k,.string q] rfl
  (World.news_of_block (cs:=#[.string k,.string q]) hnb) (by intro u hu;simp only[List.mem_cons,List.not_mem_nil,or_false]at hu;rcases hu with rfl | rfl <;> rfl) (by decide) (by unfold maxLen;omega) (by omega) hB W.heap.size rfl
 exact⟨g,cap,W',hr,h1,h2,h3.imp id Eq.symm⟩
theorem mW{cs nb k pa pn pc}(ho:W.ownsRow B 47 2 v n cs)(hnb:W.heap[nb]?=some (.cells #[.string k,.slice pa pn pc] 47))(hn:n<=4000000)(hB:B<=W.heap.size)(ty:TypeId):∃ g cap W',(Builtin.append_ #[26,26] ty #[v,.slice (some ⟨nb,0,none⟩) 1 1]).run prog W=.ok (.slice (some ⟨g,0,none⟩) (n+1) cap) W'/\W'.ownsRow B 47 2 (.slice (some ⟨g,0,none⟩) (n+1) cap) (n+1) (cs++[.string k,.slice pa pn pc])/\W.grownBy W' v.ownBlock/\(v.ownBlock=some g\/W.heap.size=g):=by
 obtain⟨i0,hi,hz0,hz1,hz2⟩:=info_parts Iq;obtain⟨g,cap,W',hr,h1,h2,h3,-⟩:=run_append_lies (P:=prog) W 26 ty B 47 i0 _ 2 40 underlying26 hi hz0 hz1 hz2 rfl (by decide) v n cs ho ⟨nb,0,none⟩ 1 1 [.string k,.slice pa pn pc] rfl
  (World.news_of_block (cs:=#[.string k,.slice pa pn pc]) hnb) (by intro u hu;simp only[List.mem_cons,List.not_mem_nil,or_false]at hu;rcases hu with rfl | rfl <;> rfl) (by decide) (by unfold maxLen;omega) (by omega) hB W.heap.size rfl
 exact⟨g,cap,W',hr,h1,h2,h3.imp id Eq.symm⟩
def oz (w0:LC) (L T:TypeId) (sz:Nat) (cells:List Value) (n:Nat) (F:Nat->Prop) (W:LC):Prop:=
 La w0 W/\∃ fv,W.heap[w0.heap.size]?=some (.cells #[fv] L)/\W.ownsRow (w0.heap.size+1) T sz fv n cells/\∀ k,F k->k≠w0.heap.size/\some k≠fv.ownBlock
theorem oz.bel{L T:TypeId}{sz cells F W'}(h:oz w0 L T sz cells n F W)(hb:La W W'):oz w0 L T sz cells n F W':=by
 obtain⟨h1,fv,h2,h3,h4⟩:=h;exact⟨h1.trans (hb.mono h1.size),fv,bR hb h2,bM h3 fun g hg=>hb.block g (bY h3 hg).2,h4⟩
theorem oz.alloc{L T:TypeId}{sz cells F}(h:oz w0 L T sz cells n F W)(o:Obj):oz w0 L T sz cells n (fun k=>F k\/k=W.heap.size) (W.alloc o):=by
 obtain⟨h1,fv,h2,h3,h4⟩:=h.bel (ae W o);obtain⟨-,fv',h2',h3',-⟩:=h;refine⟨h1,fv,h2,h3,fun k hk=>?_⟩;rcases hk with hk | rfl
 ·exact h4 k hk
 ·have e:fv=fv':=by
   have:=bR (ae W o) h2';rw[h2]at this;simp only[Option.some.injEq,Obj.cells.injEq,Array.mk.injEq,List.cons.injEq,and_true]at this;exact this
  subst e;have hlt:=(MF.1 h2').1;exact⟨by omega,fun e=>by have:=(bY h3' e.symm).2;omega⟩
theorem oz.low{L T:TypeId}{sz cells F G}(h:oz w0 L T sz cells n F W)(hk:∀ k,G k->F k):oz w0 L T sz cells n G W:=by
 obtain⟨h1,fv,h2,h3,h4⟩:=h;exact⟨h1,fv,h2,h3,fun k hg=>h4 k (hk k hg)⟩
theorem Cc(w0)(L T:TypeId)(sz):oz w0 L T sz [] 0 (fun k=>k < w0.heap.size) (w0.alloc (.cells #[.slice none 0 0] L)):=
 ⟨ae _ _,_,MN _ _,World.ownsRow_nil _ _ _ _,fun k hk=>⟨by omega,by simp[Value.ownBlock]⟩⟩
theorem Gv{L T:TypeId}{sz cells news F wc W'}{o:Obj}{fv cap}(h1:La w0 wc)(h2:wc.heap[w0.heap.size]?=some (.cells #[fv] L))(h3:wc.ownsRow (w0.heap.size+1) T sz fv n cells)(h4:∀ k,F k->k≠w0.heap.size/\some k≠fv.ownBlock)(ho:W'.ownsRow (w0.heap.size+1) T sz (.slice (some ⟨g,0,none⟩) (n+1) cap) (n+1) (cells++news))(hg:(wc.alloc o).grownBy W' fv.ownBlock)(hf:fv.ownBlock=some g\/(wc.alloc o).heap.size=g)(hF:∀ k,F k->k < wc.heap.size):oz w0 L T sz (cells++news) (n+1) F (W'.setCell ⟨w0.heap.size,0,none⟩ (.slice (some ⟨g,0,none⟩) (n+1) cap))/\wc.heap.size<=(W'.setCell ⟨w0.heap.size,0,none⟩ (.slice (some ⟨g,0,none⟩) (n+1) cap)).heap.size/\∀ k,F k->k < wc.heap.size->(W'.setCell ⟨w0.heap.size,0,none⟩ (.slice (some ⟨g,0,none⟩) (n+1) cap)).heap[k]?=wc.heap[k]?:=by
 have ha:=ae wc o;have hgo:=(bY ho (g:=g) rfl).1;have hgl:w0.heap.size < wc.heap.size:=(MF.1 h2).1;have hrow:∀ k,fv.ownBlock=some k->w0.heap.size+1<=k:=fun k hk=>(bY h3 hk).1;have hW:∀ k,k < wc.heap.size->some k≠fv.ownBlock->W'.heap[k]?=wc.heap[k]?:=fun k hk hr=>by
  rw[hg.block k (MI hk ha.size) hr,ha.block k hk]
 have hbox:W'.heap[w0.heap.size]?=some (.cells #[fv] L):=by
  rw[hW _ hgl (fun e=>by have:=hrow _ e.symm;omega),h2]
 have hset:∀ k,k≠w0.heap.size->(W'.setCell ⟨w0.heap.size,0,none⟩ (.slice (some ⟨g,0,none⟩) (n+1) cap)).heap[k]?=W'.heap[k]?:=fun k hk=>Below.heap_setCell W' ⟨w0.heap.size,0,none⟩ _ k hk;have L9:wc.heap.size<=(W'.setCell ⟨w0.heap.size,0,none⟩ (.slice (some ⟨g,0,none⟩) (n+1) cap)).heap.size:=by
  have h1:=ha.size;have h2:=hg.size;simp only[World.setCell,Array.size_modify];omega
 refine⟨⟨⟨hg.os.trans (ha.os.trans h1.os),hg.tape.trans (ha.tape.trans h1.tape),hg.output.trans (ha.output.trans h1.output),MH h1.size L9,fun k hk=>?_⟩,_,ak hbox 0 _,?_,fun k hk=>⟨(h4 k hk).1,?_⟩⟩,L9,fun k hk hlt=>?_⟩
 ·rw[hset k (by omega),hW k (by omega) (fun e=>by have:=hrow _ e.symm;omega),h1.block k hk]
 ·refine bM ho fun g' hg'=>hset g' ?_;have e9:g=g':=by simpa [Value.ownBlock] using hg'
  omega
 ·have h9:=hF k hk;have h8:=(h4 k hk).2;rcases hf with hf | hf
  ·rw[hf]at h8;simpa [Value.ownBlock] using h8
  ·have:=ha.size;simp only[Value.ownBlock,ne_eq,Option.some.injEq];omega
 ·rw[hset k (h4 k hk).1,hW k hlt (h4 k hk).2]
def jV (cs:List (Lz × Lz)):List Value:=cs.flatMap fun c=>[.string ⟨c.1.toArray⟩,.string ⟨c.2.toArray⟩]
def jN (who:Lz) (blk:Lz->Bool) (d:List (Lz × Lz)):List (Lz × Lz):=d.filter fun c=>c.1 != who&&blk c.2
theorem yO(blk:Lz->Bool)(who l):eu blk who l=jN who blk (bA l):=by
 unfold eu jN bA;rw[List.filter_flatMap];congr 1
 funext o
 rw[List.filter_map];rfl
def Fw (w0:LC) (who:Lz) (blk:Lz->Bool) (N:Nat) (d:List (Lz × Lz)) (F:Nat->Prop) (W:LC):Prop:=
 oz w0 29 64 2 (jV (jN who blk d)) (jN who blk d).length F W/\(∀ k,F k->k < W.heap.size)
variable {ok ok':Nat->Prop}
variable {t:V}
structure ri (w0:LC) (ok ok':Nat->Prop) (who:Lz) (LQ t:V) (L:List Lz) (g2 g9 g4:Nat) (a1 a2 a3 b1 b2:Option Addr) (c1 c2 c3 d1 d2:Nat):Prop where
 who:w0.cell? ⟨g2,0,none⟩=some (.string ⟨who.toArray⟩)
 wish:w0.heap[g9]?=some (.cells #[.int .i64 LQ.kind,.int .i64 LQ.n,.string ⟨LQ.s.toArray⟩,.slice a1 LQ.keys.length c1,.slice a2 LQ.l.length c2,.slice a3 L.length c3] 49)
 val:ag w0 g4 (.int .i64 t.kind) (.int .i64 t.n) (.string ⟨t.s.toArray⟩) (.slice b1 t.keys.length d1) (.slice b2 t.l.length d2)
 isWish:dB w0 ok LQ L (.agg #[.int .i64 LQ.kind,.int .i64 LQ.n,.string ⟨LQ.s.toArray⟩,.slice a1 LQ.keys.length c1,.slice a2 LQ.l.length c2,.slice a3 L.length c3])
 isVal:In w0 ok' t (.agg #[.int .i64 t.kind,.int .i64 t.n,.string ⟨t.s.toArray⟩,.slice b1 t.keys.length d1,.slice b2 t.l.length d2])
 glob:bj w0
 cnts:bN t<=2000000000000
 rises:bD L
 len:L.length < 4611686018427387904
theorem ri.bel{w1:LC}{who LQ L g2 g9 g4 a1 a2 a3 b1 b2 c1 c2 c3 d1 d2}(h:ri w0 ok ok' who LQ t L g2 g9 g4 a1 a2 a3 b1 b2 c1 c2 c3 d1 d2)(hb:La w0 w1):ri w1 ok ok' who LQ t L g2 g9 g4 a1 a2 a3 b1 b2 c1 c2 c3 d1 d2:=
 ⟨ah hb h.who,bR hb h.wish,af hb h.val,h.isWish.bel hb,h.isVal.bel hb,h.glob.bel hb,h.cnts,h.rises,h.len⟩
theorem ri.blocked{who LQ L g2 g9 g4 a1 a2 a3 b1 b2 c1 c2 c3 d1 d2}(h:ri w0 ok ok' who LQ t L g2 g9 g4 a1 a2 a3 b1 b2 c1 c2 c3 d1 d2)(p)(hp:p.length<=140737488351232):Calls prog 29 #[.agg #[.int .i64 LQ.kind,.int .i64 LQ.n,.string ⟨LQ.s.toArray⟩,.slice a1 LQ.keys.length c1,.slice a2 LQ.l.length c2,.slice a3 L.length c3],.agg #[.int .i64 t.kind,.int .i64 t.n,.string ⟨t.s.toArray⟩,.slice b1 t.keys.length d1,.slice b2 t.l.length d2],.string ⟨p.toArray⟩] w0 fun e w'=>e=.returned (.bool (aV LQ t L p))/\La w0 w':=
 tN w0 ok ok' LQ t L _ _ p h.isWish h.isVal hp h.glob h.cnts h.rises h.len
theorem Ci(who)(blk:Lz->Bool)(d:List (Lz × Lz))(n p):jN who blk (d++[(n,p)])=if (n != who&&blk p)=true then jN who blk d++[(n,p)] else jN who blk d:=by
 unfold jN;rw[List.filter_append];cases h:(n != who&&blk p) with
 | true=>simp[h]
 | false=>simp[h]
theorem EO(w0 W:LC)(ok ok' who LQ t L g2 g9 g4 a1 a2 a3 b1 b2 c1 c2 c3 d1 d2 N)(d:List (Lz × Lz))(F n p)(hc:ri w0 ok ok' who LQ t L g2 g9 g4 a1 a2 a3 b1 b2 c1 c2 c3 d1 d2)(hI:Fw w0 who (aV LQ t L) N d F W)(hN:d.length<=4000000)(hp:p.length<=140737488351232):Calls prog 54 #[.string ⟨n.toArray⟩,.string ⟨p.toArray⟩,.pointer (some ⟨g2,0,none⟩),.pointer (some ⟨g9,0,none⟩),.pointer (some ⟨g4,0,none⟩),.pointer (some ⟨w0.heap.size,0,none⟩)] W fun e w'=>e=.returned (.tuple #[])/\Fw w0 who (aV LQ t L) N (d++[(n,p)]) F w'/\W.heap.size<=w'.heap.size/\∀ k,F k->k < W.heap.size->w'.heap[k]?=W.heap[k]?:=by
 have C:=aa (hc.bel hI.1.1);have HI:=aa hI;have PS:=aa (Ci who (aV LQ t L) d n p);have PL:Ll ((jN who (aV LQ t L) d).length<=4000000):=MH (List.length_filter_le _ _) hN;have BK:=aa (C.o.blocked p hp);have q9:=C.o.who;obtain⟨x0,x1,x2,x3,x4,x5⟩:=lr C.o.wish;have y0_:=C.o.val.c;clear hc hI;by_cases hn:n=who
 ·have R:Ll (jN who (aV LQ t L) (d++[(n,p)])=jN who (aV LQ t L) d):=aa (by rw[PS.o,if_neg (by simp[hn])]);subst hn;go_enter func54,ntmps54;go_wp2
  go_end0
  exact⟨rfl,by unfold Fw;rw[R.o];exact HI.o,MG _,fun _ _ _=>rfl⟩
 ·have e3:Ll ((n != who)=true):=aa (by simpa using hn);have e9:(n == who)=false:=by simpa using hn
  generalize hblk:aV LQ t L=blk at *;clear hblk;obtain⟨o,ho⟩:∃ o,blk p=o:=⟨_,rfl⟩
  rw[ho,e3.o]at PS;rw[ho]at BK;clear ho;cases o with
  | false=>
   have R:Ll (jN who blk (d++[(n,p)])=jN who blk d):=aa (by rw[PS.o];rfl);go_enter func54,ntmps54;go_wp2_with (go_at_call 29;refine BK.o.mono ?_;rintro e w1 ⟨rfl,hb⟩;have B1:=aa hb;clear hb)
   go_end0
   exact⟨rfl,by unfold Fw;rw[R.o];exact⟨HI.o.1.bel B1.o,fun k hk=>MI (HI.o.2 k hk) B1.o.size⟩,B1.o.size,fun k hk hlt=>B1.o.block k hlt⟩
  | true=>
   have R:Ll (jN who blk (d++[(n,p)])=jN who blk d++[(n,p)]):=aa (by rw[PS.o];rfl);go_enter func54,ntmps54;go_upto_region 1 with (go_at_call 29;refine BK.o.mono ?_;rintro e w1 ⟨rfl,hb⟩;have B1:=aa hb;clear hb)
   clear q9 x0 x1 x2 x3 x4 x5;have HI1:=aa (HI.o.1.bel B1.o);have F1:Ll (∀ k,F k->k < w1.heap.size):=fun k hk=>MI (HI.o.2 k hk) B1.o.size;obtain⟨r1,fv,r2,r3,r4⟩:=HI1.o;obtain⟨PP,hPP⟩:∃ PP,jN who blk d=PP:=⟨_,rfl⟩
   rw[hPP]at r3 PL;obtain⟨g7,c7,W7,hR,ho7,hg7,hf7⟩:=Dl (W:=w1.alloc (.cells #[.string ⟨n.toArray⟩,.string ⟨p.toArray⟩] 64)) (B:=w0.heap.size+1) (v:=fv) (n:=PP.length) (cs:=jV PP) (nb:=w1.heap.size) (k:=⟨n.toArray⟩) (q:=⟨p.toArray⟩) (bM r3 fun g hg=>(ae _ _).block g (bY r3 hg).2) (MN _ _) PL.o (by have:=(ae w1 (.cells #[.string ⟨n.toArray⟩,.string ⟨p.toArray⟩] 64)).size;have:=(MF.1 r2).1;omega) 29;have FIN:=aa (Gv r1 r2 r3 r4 ho7 hg7 hf7 F1.o);have HR:=aa hR;have hgl:w0.heap.size < w1.heap.size:=(MF.1 r2).1;have c0:w1.cell? ⟨w0.heap.size,0,none⟩=some fv:=by simp[World.cell?,r2]
   have c0a:∀ o,(w1.alloc o).cell? ⟨w0.heap.size,0,none⟩=some fv:=fun o=>ah (ae _ _) c0;have hb7:W7.heap[w0.heap.size]?=some (.cells #[fv] 29):=by
    rw[hg7.block _ (MI hgl (ae w1 _).size) (fun e=>by have:=(bY r3 e.symm).1;omega),(ae w1 _).block _ hgl,r2]
   have c7a:W7.cell? ⟨w0.heap.size,0,none⟩=some fv:=by simp[World.cell?,hb7]
   have c7f:W7.frozen? ⟨w0.heap.size,0,none⟩=false:=by simp[World.frozen?,hb7]
   obtain⟨sa,sn,sc,hsv⟩:∃ sa sn sc,fv=.slice sa sn sc:=by
    rcases r3.2 with⟨h9,-⟩ | ⟨_,_,_,h9,-⟩
    ·exact⟨_,_,_,h9⟩
    ·exact⟨_,_,_,h9⟩
   subst hsv;have HPP:=aa hPP;clear hPP r1 r2 r3 r4 hR ho7 hg7 hf7 hb7;go_wp2_with (at_builtin;go_must (refine Lib.wpList_append_run _ rfl _ _ _ _ rfl (.slice sa sn sc) (.slice (some ⟨w1.heap.size,0,none⟩) 1 1) rfl rfl _ _ HR.o ?_);refine Ll.o ?_)
   refine aa ?_;go_wp2
   go_end0
   refine⟨rfl,⟨?_,fun k hk=>MI (F1.o k hk) FIN.o.2.1⟩,MH B1.o.size FIN.o.2.1,fun k hk hlt=>?_⟩
   ·rw[R.o,HPP.o];have:=FIN.o.1;simpa [jV] using this
   ·rw[FIN.o.2.2 k hk (MI hlt B1.o.size),B1.o.block k hlt]
theorem tX:∀ args w,(callFunc 54 args).run prog w=.ok (.enter 54 args) w:=enters_of func54 (by kernel_rfl) rfl
variable {w:World}
section
def rD (w:LC) (g:Nat) (d0 d1 d2 d3 d4 d5:Value):LC:=
 (((((w.setCell ⟨g,0,none⟩ d0).setCell ⟨g,1,none⟩ d1).setCell ⟨g,2,none⟩ d2).setCell ⟨g,3,none⟩ d3).setCell ⟨g,4,none⟩ d4).setCell ⟨g,5,none⟩ d5
theorem Kl{a b c d e f}{t:TypeId}(h:w.heap[g]?=some (.cells #[a,b,c,d,e,f] t)):w.cell? ⟨g,0,none⟩=some a/\w.cell? ⟨g,1,none⟩=some b/\w.cell? ⟨g,2,none⟩=some c/\w.cell? ⟨g,3,none⟩=some d/\w.cell? ⟨g,4,none⟩=some e/\w.cell? ⟨g,5,none⟩=some f /\
 w.frozen? ⟨g,0,none⟩=false/\w.frozen? ⟨g,1,none⟩=false/\w.frozen? ⟨g,2,none⟩=false/\w.frozen? ⟨g,3,none⟩=false/\w.frozen? ⟨g,4,none⟩=false/\w.frozen? ⟨g,5,none⟩=false:=by
 refine⟨?_,?_,?_,?_,?_,?_,?_,?_,?_,?_,?_,?_⟩ <;> simp[World.cell?,World.frozen?,h]
theorem E6{a b c d e f}{t:TypeId}(h:w.heap[g]?=some (.cells #[a,b,c,d,e,f] t))(d0 d1 d2 d3 d4 d5):(rD w g d0 d1 d2 d3 d4 d5).heap[g]?=some (.cells #[d0,d1,d2,d3,d4,d5] t):=
 ak (ak (ak (ak (ak (ak h 0 d0) 1 d1) 2 d2) 3 d3) 4 d4) 5 d5
theorem xf(w:LC)(g d0 d1 d2 d3 d4 d5):w.grownBy (rD w g d0 d1 d2 d3 d4 d5) (some g):=
 ap (ap (ap (ap (ap (ap (az _ _) _ _) _ _) _ _) _ _) _ _) _ _
theorem Vt{w1}(h:La w w1)(hg:w.heap.size<=g)(d0 d1 d2 d3 d4 d5):La w (rD w1 g d0 d1 d2 d3 d4 d5):=by
 have k:=xf w1 g d0 d1 d2 d3 d4 d5;exact⟨k.os.trans h.os,k.tape.trans h.tape,k.output.trans h.output,MH h.size k.size,fun i hi=>(k.block i (MI hi h.size) (by simp;omega)).trans (h.block i hi)⟩
theorem xu{W2:LC}{L d0 d1 d2 d3 d4}{T:TypeId}(h:ao W (fun k=>W2.heap.size<=k) L v)(hs:((w.alloc (.cells #[d0,d1,d2,d3,d4] 25)).alloc (.cells #[.int .i64 0,.int .i64 0,.string ⟨#[]⟩,.slice none 0 0,.slice none 0 0,.slice none 0 0] 49)).heap.size<=W2.heap.size){e0 e1 e2 e3 e4 e5}(_:(rD W (w.heap.size+1) e0 e1 e2 e3 e4 e5).heap[w.heap.size+1]?=some (.cells #[e0,e1,e2,e3,e4,e5] T)):ao (rD W (w.heap.size+1) e0 e1 e2 e3 e4 e5) (bQ ok w.heap.size) L v:=by
 refine h.imp fun a x h1 h2=>⟨.inr ?_,?_⟩
 ·simp at hs;omega
 ·rw[World.cell?_of_block ((xf W (w.heap.size+1) e0 e1 e2 e3 e4 e5).block _ (World.block_lt_of_cell? _ _ h2) (by simp at hs;simp;omega))];exact h2
attribute [local go_sem ↓] Go.wp_at_zero Go.wp_at_succ
theorem rQ(w:LC)(ok t v)(h:In w ok t v)(hM:bj w):Calls prog 26 #[v] w fun e w'=>∃ r,e=.returned r/\dB w' (bQ ok w.heap.size) t (au t) r/\La w w':=by
 have H:=aa h.low;have HM:=aa hM;obtain⟨a1,a2,c1,c2,rfl⟩:=h.form;clear h hM;have B2:Ll (La w ((w.alloc (.cells #[.int .i64 t.kind,.int .i64 t.n,.string ⟨t.s.toArray⟩,.slice a1 t.keys.length c1,.slice a2 t.l.length c2] 25)).alloc (.cells #[.int .i64 0,.int .i64 0,.string ⟨#[]⟩,.slice none 0 0,.slice none 0 0,.slice none 0 0] 49))):=ab (ae _ _) (ae _ _);have BV:Ll (ag ((w.alloc (.cells #[.int .i64 t.kind,.int .i64 t.n,.string ⟨t.s.toArray⟩,.slice a1 t.keys.length c1,.slice a2 t.l.length c2] 25)).alloc (.cells #[.int .i64 0,.int .i64 0,.string ⟨#[]⟩,.slice none 0 0,.slice none 0 0,.slice none 0 0] 49)) w.heap.size (.int .i64 t.kind) (.int .i64 t.n) (.string ⟨t.s.toArray⟩) (.slice a1 t.keys.length c1) (.slice a2 t.l.length c2)):=fb w _ _;have BZ:Ll (((w.alloc (.cells #[.int .i64 t.kind,.int .i64 t.n,.string ⟨t.s.toArray⟩,.slice a1 t.keys.length c1,.slice a2 t.l.length c2] 25)).alloc (.cells #[.int .i64 0,.int .i64 0,.string ⟨#[]⟩,.slice none 0 0,.slice none 0 0,.slice none 0 0] 49)).heap[w.heap.size+1]?=some (.cells #[.int .i64 0,.int .i64 0,.string ⟨#[]⟩,.slice none 0 0,.slice none 0 0,.slice none 0 0] 49)):=et w _ _;go_enter func26,ntmps26;go_upto_region 1 with fail
 refine aD (fun wS=>La ((w.alloc (.cells #[.int .i64 t.kind,.int .i64 t.n,.string ⟨t.s.toArray⟩,.slice a1 t.keys.length c1,.slice a2 t.l.length c2] 25)).alloc (.cells #[.int .i64 0,.int .i64 0,.string ⟨#[]⟩,.slice none 0 0,.slice none 0 0,.slice none 0 0] 49)) wS) [4] (by kernel_rfl) (aC _ 1) (fun LI=>?_);refine WT.out ?_;iterate 2
  first
   | refine OJ 0 ?_ [3,4] LI ?_ ?_
   | refine OJ 1 ?_ [2,3,4] LI ?_ ?_
  rotate_left
  ·intro wS LN;have u0_:=(af LN BV.o).c;go_simp;all_goals with_reducible rfl
  simp only[av,List.set]
 repeat' (first
  | exact nl
  |(refine TD 2 (fun K hK=>?_) ?_
    go_simp;refine(Uy _ (Lj ok w) t _ (by exact(H.o.bel B2.o).bel LI) (by exact(HM.o.bel B2.o).bel LI)).mono ?_;rintro e w2q ⟨a3,c3,rfl,hst,hb5⟩;refine hK.out _ _ (ab LI hb5) (fun LJ=>?_);have ST:=aa hst;have B5:=aa LJ;have HB5:=aa hb5;have HH:=aa LI;clear hb5 hst;clear hK K;replace LI:=LJ;clear LJ;try simp only[Act.put,Mt,Mu,Mv])
  |(refine OO 4 (fun K hK=>?_)
    have ZB:=aa (bR LI BZ.o);obtain⟨n0,n1,n2,n3,n4,n5,m0,m1,m2,m3,m4,m5⟩:=Kl ZB.o;have FIN:=aa (E6 ZB.o (.int .i64 t.kind) (.int .i64 t.n) (.string ⟨t.s.toArray⟩) (.slice a1 t.keys.length c1) (.slice a2 t.l.length c2) (.slice a3 (au t).length c3));have FB:=aa (Vt (ab B2.o LI) (Nat.le_succ w.heap.size) (.int .i64 t.kind) (.int .i64 t.n) (.string ⟨t.s.toArray⟩) (.slice a1 t.keys.length c1) (.slice a2 t.l.length c2) (.slice a3 (au t).length c3));go_simp;refine hK.out _ _ ?_;clear hK K;try simp only[Act.put,Mt,Mu,Mv])
  |(refine OJ 3 ?_ [4] (by exact LI) ?_ ?_
    rotate_left
    ·intro wS LN;go_simp;all_goals with_reducible rfl
    simp only[av,List.set])
  | refine OL [2] ?_
  | fail)
 all_goals
  refine dn (by kernel_rfl) ?_;clear n0 n1 n2 n3 n4 n5 m0 m1 m2 m3 m4 m5;go_wp2
  obtain⟨z0,z1,z2,z3,z4,z5⟩:=lr FIN.o;refine MM (v:=.agg #[.int .i64 t.kind,.int .i64 t.n,.string ⟨t.s.toArray⟩,.slice a1 t.keys.length c1,.slice a2 t.l.length c2,.slice a3 (au t).length c3]) ?_ rfl ?_
  ·simp only[rD]at z0 z1 z2 z3 z4 z5;simp[results,results26,go_sem,z0,z1,z2,z3,z4,z5]
  ·refine⟨_,rfl,⟨a1,a2,a3,c1,c2,c3,rfl,?_,?_⟩,FB.o⟩
   ·exact(H.o.bel FB.o).weak fun k hk=>.inl hk.1
   ·exact xu ST.o HH.o.size FIN.o
end
theorem TT(LQ):bD (au LQ)/\(au LQ).length < 4611686018427387904:=by
 by_cases h:LQ.kind=5/\aE LQ=true
 ·exact⟨(mM h.1 h.2).rises,Gb h.1 h.2⟩
 ·have e:au LQ=[]:=if_neg h;rw[e];exact⟨List.Pairwise.nil,by simp⟩
noncomputable def ld (t:V) (l:List aL) (who:Lz) (LQ:V):List (Lz × Lz):=if aE t=true/\TC l=true then eu (aV LQ t (au LQ)) who l else []
theorem VP{okw okv:Nat->Prop}{who:Lz}{LQ:V}{L:List Lz}{g2 g9 g4:Nat}{a1 a2 a3 b1 b2:Option Addr}{c1 c2 c3 d1 d2:Nat}{l:List aL}{vl:Value}(hc:ri w0 okw okv who LQ t L g2 g9 g4 a1 a2 a3 b1 b2 c1 c2 c3 d1 d2)(hl:aB w0 ok l vl)(hok:∀ k,ok k->k < w0.heap.size)(hN:(bA l).length<=4000000)(hP:∀ o∈l,∀ x∈o.paths,x.length<=140737488351232):Sh w0 54 #[.pointer (some ⟨g2,0,none⟩),.pointer (some ⟨g9,0,none⟩),.pointer (some ⟨g4,0,none⟩),.pointer (some ⟨w0.heap.size,0,none⟩)] l ok vl (Fw w0 who (aV LQ t L) 0) where
 owns:=hl
 cells d F W hI a x h1 h2:=(World.cell?_of_block (hI.1.1.block _ (hok _ h1))).trans h2
 alloc d F W o hI:=⟨hI.1.alloc o,fun k hk=>by
  have:W.heap.size < (W.alloc o).heap.size:=by simp
  rcases hk with hk | rfl
  ·have:=hI.2 k hk;omega
  ·exact this⟩
 low d F G W hI hg:=⟨hI.1.low hg,fun k hk=>hI.2 k (hg k hk)⟩
 step d F W n p hI hpre:=by
  have hm:(n,p)∈bA l:=hpre.subset (by simp);obtain⟨o,ho,rfl,hp⟩:=kL hm;have LT:=hpre.length_le;rw[Mx]at LT;exact EO w0 W okw okv who LQ t L g2 g9 g4 a1 a2 a3 b1 b2 c1 c2 c3 d1 d2 0 d F o.name p hc hI (by omega) (hP o ho p hp)
theorem lJ(w:LC)(ok okl okw t LQ l who vt vl vw)(ht:In w ok t vt)(hl:aB w okl l vl)(hw:In w okw LQ vw)(hM:bj w)(hN:(bA l).length<=4000000)(hP:∀ o∈l,∀ x∈o.paths,x.length<=140737488351232):Calls prog 21 #[vt,vl,.string ⟨who.toArray⟩,vw] w fun e w'=>∃ r,e=.returned r/\w'.ownsRow w.heap.size 64 2 r (ld t l who LQ).length (jV (ld t l who LQ))/\La w w':=by
 have HT:=aa ht.low;have HL:=aa hl.low;have HW:=aa hw.low;have HM:=aa hM;have HN:=aa hN;have HP:=aa hP;obtain⟨b1,b2,d1,d2,rfl⟩:=ht.form;obtain⟨a1,a2,c1,c2,rfl⟩:=hw.form;obtain⟨la,lc,rfl⟩:=hl.form;have ll:=hl.1;unfold maxLen at ll;clear ht hl hw hM hN hP;obtain⟨W3,hW3⟩:∃ W,W=((w.alloc (.cells #[.int .i64 t.kind,.int .i64 t.n,.string ⟨t.s.toArray⟩,.slice b1 t.keys.length d1,.slice b2 t.l.length d2] 25)).alloc (.cells #[.string ⟨who.toArray⟩] 9)).alloc (.cells #[.int .i64 LQ.kind,.int .i64 LQ.n,.string ⟨LQ.s.toArray⟩,.slice a1 LQ.keys.length c1,.slice a2 LQ.l.length c2] 25):=⟨_,rfl⟩
 have BW:Ll (La w W3):=aa (by rw[hW3];exact ab (ab (ae _ _) (ae _ _)) (ae _ _));have X1:Ll (ag W3 w.heap.size (.int .i64 t.kind) (.int .i64 t.n) (.string ⟨t.s.toArray⟩) (.slice b1 t.keys.length d1) (.slice b2 t.l.length d2)):=aa (by rw[hW3];exact lI _ _ _ _);have X2:Ll (W3.heap[w.heap.size+1]?=some (.cells #[.string ⟨who.toArray⟩] 9)):=aa (by rw[hW3];exact mE _ _ _ _);have X3:Ll (ag W3 (w.heap.size+2) (.int .i64 LQ.kind) (.int .i64 LQ.n) (.string ⟨LQ.s.toArray⟩) (.slice a1 LQ.keys.length c1) (.slice a2 LQ.l.length c2)):=aa (by rw[hW3];exact jI _ _ _ _);have HW3:=aa hW3;clear hW3;have GT:Ll (∀ W,La w W->Calls prog 34 #[.agg #[.int .i64 t.kind,.int .i64 t.n,.string ⟨t.s.toArray⟩,.slice b1 t.keys.length d1,.slice b2 t.l.length d2]] W fun e w'=>e=.returned (.bool (aE t))/\La W w'):=fun W hW=>bG W _ t _ (HT.o.bel hW);have GO:Ll (∀ W,La w W->Calls prog 15 #[.slice la l.length lc] W fun e w'=>e=.returned (.bool (TC l))/\La W w'):=fun W hW=>eZ W _ l _ (HL.o.bel hW) HP.o (HM.o.bel hW);have p0_:=X1.o.c;cases hgt:aE t with
 | false=>
  have R:Ll (ld t l who LQ=[]):=if_neg (by rw[hgt];simp);rw[hgt]at GT;clear hgt;go_enter func21,ntmps21;go_upto_region 1 with fail
  rw[<-HW3.o];go_wp2_with (go_at_call 34;refine Lk (GT.o _ BW.o) fun w1 hb=>?_;have B1:=aa (ab BW.o hb);clear hb)
  go_ret;exact⟨_,rfl,by rw[R.o];exact World.ownsRow_nil _ _ _ _,B1.o⟩
 | true=>
  rw[hgt]at GT;have HGT:=aa hgt;clear hgt;cases hgo:TC l with
  | false=>
   have R:Ll (ld t l who LQ=[]):=if_neg (by rw[hgo];simp);rw[hgo]at GO;clear hgo;go_enter func21,ntmps21;go_upto_region 1 with fail
   rw[<-HW3.o];go_wp2_with (first
    |(go_at_call 34;refine Lk (GT.o _ BW.o) fun w1 hb=>?_;have B1:=aa (ab BW.o hb);clear hb)
    |(go_at_call 15;refine Lk (GO.o _ B1.o) fun w2 hb=>?_;have B2:=aa (ab B1.o hb);clear hb))
   go_ret;exact⟨_,rfl,by rw[R.o];exact World.ownsRow_nil _ _ _ _,B2.o⟩
  | true=>
   have R:Ll (ld t l who LQ=jN who (aV LQ t (au LQ)) (bA l)):=aa (by rw[ld,if_pos ⟨HGT.o,hgo⟩,yO]);rw[hgo]at GO;clear hgo;go_enter func21,ntmps21;go_upto_region 1 with fail
   rw[<-HW3.o];go_upto_region 3 with (first
    |(go_at_call 34;refine Lk (GT.o _ BW.o) fun w1 hb=>?_;have B1:=aa (ab BW.o hb);have Y1:=aa hb;clear hb)
    |(go_at_call 15;refine Lk (GO.o _ B1.o) fun w2 hb=>?_;have B2:=aa (ab B1.o hb);have Y2:=aa (ab Y1.o hb);clear hb))
   have p0_:=(af Y2.o X3.o).c;have WO:=aa (rQ w2 (fun k=>okw k/\k < w.heap.size) LQ _ (by exact HW.o.bel B2.o) (HM.o.bel B2.o));go_upto_region 4 with (go_at_call 26;refine WO.o.mono ?_;rintro e w3 ⟨r,rfl,hwi,hb⟩;have B3:=aa (ab B2.o hb);have Y3:=aa (ab Y2.o hb);have WI:=aa hwi;clear hb;obtain⟨x1,x2,x3,y1,y2,y3,rfl,-,-⟩:=hwi)
   obtain⟨W6,hW6⟩:∃ W,W=w3.alloc (.cells #[.int .i64 LQ.kind,.int .i64 LQ.n,.string ⟨LQ.s.toArray⟩,.slice x1 LQ.keys.length y1,.slice x2 LQ.l.length y2,.slice x3 (au LQ).length y3] 49):=⟨_,rfl⟩
   have Y6:Ll (La w3 W6):=aa (by rw[hW6];exact ae _ _);have X6:Ll (W6.heap[w3.heap.size]?=some (.cells #[.int .i64 LQ.kind,.int .i64 LQ.n,.string ⟨LQ.s.toArray⟩,.slice x1 LQ.keys.length y1,.slice x2 LQ.l.length y2,.slice x3 (au LQ).length y3] 49)):=aa (by rw[hW6];exact MN _ _);have B6:=aa (ab B3.o Y6.o);rw[<-hW6];clear hW6;have CAP:Ll (ri W6 (bQ (fun k=>okw k/\k < w.heap.size) w2.heap.size) (Lj ok w) who LQ t (au LQ) (w.heap.size+1) w3.heap.size w.heap.size x1 x2 x3 b1 b2 y1 y2 y3 d1 d2):=aa ⟨by
    have h9:=bR (ab Y3.o Y6.o) X2.o;simp[World.cell?,h9],X6.o,af (ab Y3.o Y6.o) X1.o,WI.o.bel Y6.o,HT.o.bel B6.o,HM.o.bel B6.o,by have:=gE (dQ HGT.o);omega,(TT LQ).1,(TT LQ).2⟩
   have SEES:=aa (VP CAP.o (HL.o.bel B6.o) (fun k hk=>by have:=B6.o.size;have h9:=hk.2;omega) HN.o HP.o);have CALL:=aa (nW W6 (W6.alloc (.cells #[.slice none 0 0] 29)) _ l _ _ _ _ (fun k=>k < W6.heap.size) tX SEES.o ⟨by simpa [jN,jV] using Cc W6 29 64 2,fun k hk=>by simp;omega⟩);go_upto_region 6 with (go_at_call 53;refine CALL.o.mono ?_;rintro e w7 ⟨rfl,hi7⟩;have I7:=aa hi7;clear hi7)
   obtain⟨r1,fv,r2,r3,r4⟩:=I7.o.1;have c0:w7.cell? ⟨W6.heap.size,0,none⟩=some fv:=by simp[World.cell?,r2]
   obtain⟨sa,sn,sc,hsv⟩:∃ sa sn sc,fv=.slice sa sn sc:=by
    rcases r3.2 with⟨h9,-⟩ | ⟨_,_,_,h9,-⟩
    ·exact⟨_,_,_,h9⟩
    ·exact⟨_,_,_,h9⟩
   subst hsv;have ROW:=aa r3;have BE:=aa (B6.o.trans (r1.mono B6.o.size));have SZ6:=aa B6.o.size;clear r1 r2 r3 r4;go_wp2
   go_ret;exact⟨_,rfl,by rw[R.o];exact TP ROW.o (by have:=SZ6.o;omega),BE.o⟩
def kq (os:List aL) (n p:Lz):List aL:=
 match os.getLast? with
 | some o=>if o.name=n then os.dropLast++[⟨n,o.paths++[p]⟩] else os++[⟨n,[p]⟩]
 | none=>[⟨n,[p]⟩]
theorem Ev(n p):kq [] n p=[⟨n,[p]⟩]:=rfl
theorem nu(os o p):kq (os++[o]) o.name p=os++[⟨o.name,o.paths++[p]⟩]:=by
 unfold kq;simp
theorem oT(os o n p)(h:o.name≠n):kq (os++[o]) n p=(os++[o])++[⟨n,[p]⟩]:=by
 unfold kq;simp[h]
theorem Oe{os n p}(h:∀ x∈os,x.name≠n):kq os n p=os++[⟨n,[p]⟩]:=by
 rcases List.eq_nil_or_concat os with rfl | ⟨r,o,rfl⟩
 ·rfl
 ·rw[List.concat_eq_append]at h ⊢;exact oT _ _ _ _ (h o (by simp))
def Ia (stays:Lz->Lz->Bool) (os:List aL) (c:Lz × Lz):List aL:=if stays c.1 c.2=true then kq os c.1 c.2 else os
def xz (stays:Lz->Lz->Bool) (d:List (Lz × Lz)):List aL:=d.foldl (Ia stays) []
theorem wQ(stays:Lz->Lz->Bool)(d:List (Lz × Lz))(n p):xz stays (d++[(n,p)])=if stays n p=true then kq (xz stays d) n p else xz stays d:=by
 unfold xz;rw[List.foldl_append];rfl
theorem El{stays:Lz->Lz->Bool}{os n}(h:∀ x∈os,x.name≠n):∀ (ps:List Lz),(ps.map fun p=>(n,p)).foldl (Ia stays) os=os++(if ps.filter (stays n)=[] then [] else [⟨n,ps.filter (stays n)⟩]):=by
 have key:∀ (k:Nat) (ps:List Lz),ps.length=k->(ps.map fun p=>(n,p)).foldl (Ia stays) os=os++(if ps.filter (stays n)=[] then [] else [⟨n,ps.filter (stays n)⟩]):=by
  intro k;induction k with
  | zero=>intro ps hp;rw[List.length_eq_zero_iff.1 hp];simp
  | succ k ih=>
   intro ps hp;rcases List.eq_nil_or_concat ps with rfl | ⟨r,p,rfl⟩
   ·simp at hp
   ·rw[List.concat_eq_append]at hp ⊢;rw[List.map_append,List.foldl_append,ih r (by simpa using hp)];simp only[List.map_cons,List.map_nil,List.foldl_cons,List.foldl_nil,Ia,List.filter_append];cases hs:stays n p with
    | false=>simp[hs]
    | true=>
     simp only[if_true,hs,List.filter_cons_of_pos,List.filter_nil];by_cases hf:r.filter (stays n)=[]
     ·rw[if_pos hf,List.append_nil,Oe h,hf];simp
     ·rw[if_neg hf];have:=nu os ⟨n,r.filter (stays n)⟩ p;simp only at this;rw[this];simp
 exact fun ps=>key _ ps rfl
theorem Gn{stays:Lz->Lz->Bool}{l}(h:bD (l.map aL.name)):xz stays (bA l)=dV stays l:=by
 have key:∀ k,k<=l.length->xz stays (bA (l.take k))=dV stays (l.take k):=by
  intro k;induction k with
  | zero=>intro _;simp[bA,xz,dV]
  | succ k ih=>
   intro hk;have hlt:k < l.length:=by omega
   have hne:∀ x∈dV stays (l.take k),x.name≠l[k].name:=by
    intro x hx;obtain⟨y,hy,rfl,-⟩:=oE hx;obtain⟨i,hi,rfl⟩:=List.getElem_of_mem hy;rw[MC]at hi;rw[List.getElem_take];have:=List.pairwise_iff_getElem.1 h i k (by simp;omega) (by simpa using hlt) (by omega);rw[List.getElem_map,List.getElem_map]at this;intro e;rw[e,TE]at this;cases this
   rw[lz hlt];unfold xz at ih ⊢;rw[List.foldl_append,ih (by omega),El hne,List.take_succ_eq_append_getElem hlt,vF];congr 1
   unfold dV;simp only[List.map_cons,List.map_nil];split
   ·rename_i hf;rw[hf];rfl
   ·rename_i hf;rw[List.filter_cons_of_pos (by simpa using hf)];rfl
 have:=key l.length (MG _);rwa [List.take_length]at this
def ba:List aL->List Value->List Value
 | o :: os,v :: vs=>.string ⟨o.name.toArray⟩ :: v :: ba os vs
 | _,_=>[]
theorem eG:∀ (os:List aL) (vs:List Value) (o:aL) (v:Value),os.length=vs.length->ba (os++[o]) (vs++[v])=ba os vs++[.string ⟨o.name.toArray⟩,v]
 | [],[],o,v,_=>rfl
 | [],_ :: _,o,v,h=>by simp at h
 | _ :: _,[],o,v,h=>by simp at h
 | o' :: os,v' :: vs,o,v,h=>by
  simp only[List.cons_append,ba,eG os vs o v (by simpa using h)]
theorem fS:∀ (os:List aL) (vs:List Value),os.length=vs.length->(ba os vs).length=os.length * 2
 | [],[],_=>rfl
 | [],_ :: _,h=>by simp at h
 | _ :: _,[],h=>by simp at h
 | o' :: os,v' :: vs,h=>by
  simp only[ba,My,fS os vs (by simpa using h)];omega
def Jx (w0 W:LC) (init:List aL) (ov pl:Value) (pin:List Value):Option aL->Prop
 | none=>init=[]/\pl=.slice none 0 0/\W.ownsRow (w0.heap.size+1) 47 2 ov 0 []
 | some o=>W.ownsRow (w0.heap.size+1) 47 2 ov (init.length+1) (ba (init++[o]) (pin++[pl]))/\W.ownsRow (w0.heap.size+1) 9 1 pl o.paths.length (o.paths.map ji)/\∀ x∈o.paths,x.length<=maxLen
structure gG (w0:LC) (init:List aL) (LZ:Option aL) (F:Nat->Prop) (W:LC) (ov pl:Value) (pin:List Value) (Z:Nat->Prop):Prop where
 low:La w0 W
 box:W.heap[w0.heap.size]?=some (.cells #[ov] 26)
 plen:init.length=pin.length
 ini:∀ (i:Nat) (o:aL) (v:Value),init[i]?=some o->pin[i]?=some v->(∃ a c,v=.slice a o.paths.length c)/\ao W Z o.paths v
 last:Jx w0 W init ov pl pin LZ
 off:∀ (g:Nat),ov.ownBlock=some g->pl.ownBlock≠some g
 zlow:∀ (k:Nat),Z k->w0.heap.size+1<=k
 keep:∀ (k:Nat),(F k\/Z k)->k < W.heap.size/\k≠w0.heap.size/\some k≠ov.ownBlock/\some k≠pl.ownBlock
def D4 (w0:LC) (os:List aL) (F:Nat->Prop) (W:LC):Prop:=∃ init LZ ov pl pin Z,os=init++LZ.toList/\gG w0 init LZ F W ov pl pin Z
theorem gG.rows{init}{LZ:Option aL}{F ov pl pin Z}(h:gG w0 init LZ F W ov pl pin Z):(∀ g,ov.ownBlock=some g->w0.heap.size+1<=g/\g < W.heap.size)/\(∀ g,pl.ownBlock=some g->w0.heap.size+1<=g/\g < W.heap.size):=by
 have hl:=h.last;cases LZ with
 | none=>
  obtain⟨-,rfl,h2⟩:=hl;exact⟨fun g hg=>bY h2 hg,fun g hg=>by cases hg⟩
 | some o=>exact⟨fun g hg=>bY hl.1 hg,fun g hg=>bY hl.2.1 hg⟩
theorem gG.bel{init:List aL}{LZ:Option aL}{F:Nat->Prop}{W':LC}{ov pl:Value}{pin:List Value}{Z:Nat->Prop}(h:gG w0 init LZ F W ov pl pin Z)(hb:La W W'):gG w0 init LZ F W' ov pl pin Z where
 low:=h.low.trans (hb.mono h.low.size)
 box:=bR hb h.box
 plen:=h.plen
 ini i o v h1 h2:=⟨(h.ini i o v h1 h2).1,(h.ini i o v h1 h2).2.imp fun a x g1 g2=>⟨g1,ah hb g2⟩⟩
 last:=by
  have hl:=h.last;have hr:=h.rows;cases LZ with
  | none=>exact⟨hl.1,hl.2.1,bM hl.2.2 fun g hg=>hb.block g (hr.1 g hg).2⟩
  | some o=>exact⟨bM hl.1 fun g hg=>hb.block g (hr.1 g hg).2,bM hl.2.1 fun g hg=>hb.block g (hr.2 g hg).2,hl.2.2⟩
 off:=h.off
 zlow:=h.zlow
 keep k hk:=⟨MI (h.keep k hk).1 hb.size,(h.keep k hk).2⟩
theorem gG.alloc{init}{LZ:Option aL}{F ov pl pin Z}(h:gG w0 init LZ F W ov pl pin Z)(o:Obj):gG w0 init LZ (fun k=>F k\/k=W.heap.size) (W.alloc o) ov pl pin Z:=by
 have h2:=h.bel (ae W o);have hr:=h.rows;refine { h2 with keep:=fun k hk=>?_ };rcases hk with (hk | rfl) | hk
 ·exact h2.keep k (.inl hk)
 ·have LU:=(MF.1 h.box).1;exact⟨by simp,by omega,fun e=>by have:=(hr.1 _ e.symm).2;omega,fun e=>by have:=(hr.2 _ e.symm).2;omega⟩
 ·exact h2.keep k (.inr hk)
theorem gG.lower{init}{LZ:Option aL}{F G ov pl pin Z}(h:gG w0 init LZ F W ov pl pin Z)(hg:∀ k,G k->F k):gG w0 init LZ G W ov pl pin Z:=
 { h with keep:=fun k hk=>h.keep k (hk.imp (hg k) id) }
theorem A0(w0:LC):gG w0 [] none (fun k=>k < w0.heap.size) (w0.alloc (.cells #[.slice none 0 0] 26)) (.slice none 0 0) (.slice none 0 0) [] (fun _=>False) where
 low:=ae _ _
 box:=MN _ _
 plen:=rfl
 ini i o v h:=by simp at h
 last:=⟨rfl,rfl,World.ownsRow_nil _ _ _ _⟩
 off g hg:=by cases hg
 zlow k hk:=hk.elim
 keep k hk:=by
  rcases hk with hk | hk
  ·exact⟨by simp;omega,by omega,by simp[Value.ownBlock],by simp[Value.ownBlock]⟩
  ·exact hk.elim
theorem jQ{e:TypeId}{size cap xs}(h:w.ownsRow B e size (.slice (some ⟨g,0,none⟩) n cap) n xs)(hn:0 < n)(i v):(w.setCell ⟨g,i,none⟩ v).ownsRow B e size (.slice (some ⟨g,0,none⟩) n cap) n (xs.set i v):=by
 refine⟨by simpa using h.1,?_⟩;rcases h.2 with⟨h0,-⟩ | ⟨g',cap',cur,e1,h1,h2,h3,h4,h5,h6⟩
 ·cases h0
 ·cases e1;refine .inr ⟨g,cap,cur.setIfInBounds i v,rfl,h1,ak h2 i v,h3,h4,by simpa using h5,?_⟩;rw[Array.toList_setIfInBounds,List.take_set,h6]
theorem wx{init pin o o' pl pl'}(h:init.length=pin.length)(hn:o'.name=o.name):(ba (init++[o]) (pin++[pl])).set (init.length * 2+1) pl'=ba (init++[o']) (pin++[pl']):=by
 rw[eG _ _ _ _ h,eG _ _ _ _ h,hn,List.set_append_right _ _ (by rw[fS _ _ h];omega),fS _ _ h];rw[show init.length * 2+1 - init.length * 2=1 by omega];rfl
theorem sA{ps}(h:w.ownsRow B 9 1 v ps.length (ps.map ji))(hl:∀ x∈ps,x.length<=maxLen)(hok:∀ g,v.ownBlock=some g->ok g):(∃ a c,v=.slice a ps.length c)/\ao w ok ps v:=by
 rcases h.2 with⟨rfl,h0⟩ | ⟨g,cap,cur,rfl,h1,h2,h3,h4,h5,h6⟩
 ·have hL:ps=[]:=List.length_eq_zero_iff.1 h0;subst hL;exact⟨⟨none,0,rfl⟩,by simp[maxLen],.inl ⟨rfl,none,rfl⟩⟩
 ·refine⟨⟨_,_,rfl⟩,by omega,.inr ⟨g,0,cap,rfl,h3,h4,fun i x hx=>⟨hl x (List.mem_of_getElem? hx),hok g rfl,?_⟩⟩⟩;obtain⟨hi,rfl⟩:=Mz.1 hx;have e:=congrArg (fun l=>l[i]?) h6;simp only[Nat.mul_one,List.getElem?_take,List.getElem?_map,Mw hi,Option.map_some]at e;rw[if_pos hi]at e;have e2:cur[i]?=some (ji ps[i]):=by simpa using e
  simp[World.cell?,h2,e2,ji,aR]
theorem NQ{init}{LZ:Option aL}{F wc W' ov pl pin Z}{ob:Obj}{n N cap cells}(h:gG w0 init LZ F wc ov pl pin Z)(hN:N=(init++LZ.toList).length)(Mb:cells=ba (init++LZ.toList) (pin++(LZ.toList.map fun _=>pl)))(ho:W'.ownsRow (w0.heap.size+1) 47 2 (.slice (some ⟨g,0,none⟩) (N+1) cap) (N+1) (cells++[.string ⟨n.toArray⟩,.slice none 0 0]))(hg:(wc.alloc ob).grownBy W' ov.ownBlock)(hf:ov.ownBlock=some g\/(wc.alloc ob).heap.size=g):gG w0 (init++LZ.toList) (some ⟨n,[]⟩) F (W'.setCell ⟨w0.heap.size,0,none⟩ (.slice (some ⟨g,0,none⟩) (N+1) cap)) (.slice (some ⟨g,0,none⟩) (N+1) cap) (.slice none 0 0) (pin++(LZ.toList.map fun _=>pl)) (fun k=>Z k\/pl.ownBlock=some k) /\
 wc.heap.size<=(W'.setCell ⟨w0.heap.size,0,none⟩ (.slice (some ⟨g,0,none⟩) (N+1) cap)).heap.size/\∀ k,F k->k < wc.heap.size->(W'.setCell ⟨w0.heap.size,0,none⟩ (.slice (some ⟨g,0,none⟩) (N+1) cap)).heap[k]?=wc.heap[k]?:=by
 have ha:=ae wc ob;have hr:=h.rows;have hgo:=(bY ho (g:=g) rfl).1;have hgl:w0.heap.size < wc.heap.size:=(MF.1 h.box).1;have hW:∀ k,k < wc.heap.size->some k≠ov.ownBlock->W'.heap[k]?=wc.heap[k]?:=fun k hk hn=>by
  rw[hg.block k (MI hk ha.size) hn,ha.block k hk]
 have hbox:W'.heap[w0.heap.size]?=some (.cells #[ov] 26):=by
  rw[hW _ hgl (fun e=>by have:=(hr.1 _ e.symm).1;omega),h.box]
 obtain⟨W2,hW2⟩:∃ W,W=W'.setCell ⟨w0.heap.size,0,none⟩ (.slice (some ⟨g,0,none⟩) (N+1) cap):=⟨_,rfl⟩
 have hset:∀ k,k≠w0.heap.size->W2.heap[k]?=W'.heap[k]?:=fun k hk=>by rw[hW2];exact Below.heap_setCell W' ⟨w0.heap.size,0,none⟩ _ k hk
 have L9:wc.heap.size<=W2.heap.size:=by
  have h1:=ha.size;have h2:=hg.size;rw[hW2];simp only[World.setCell,Array.size_modify];omega
 have hos:W2.os=W'.os/\W2.tape=W'.tape/\W2.output=W'.output:=by rw[hW2];exact⟨rfl,rfl,rfl⟩
 have hfix:∀ k,k < wc.heap.size->k≠w0.heap.size->some k≠ov.ownBlock->W2.heap[k]?=wc.heap[k]?:=fun k h1 h2 h3=>by rw[hset k h2,hW k h1 h3]
 have hlo:La w0 W2:=⟨by rw[hos.1,hg.os,ha.os,h.low.os],by rw[hos.2.1,hg.tape,ha.tape,h.low.tape],by rw[hos.2.2,hg.output,ha.output,h.low.output],MH h.low.size L9,fun k hk=>by rw[hfix k (by omega) (by omega) (fun e=>by have:=(hr.1 _ e.symm).1;omega),h.low.block k hk]⟩
 have hb2:W2.heap[w0.heap.size]?=some (.cells #[.slice (some ⟨g,0,none⟩) (N+1) cap] 26):=by rw[hW2];exact ak hbox 0 _
 rw[<-hW2];have hpn:(init++LZ.toList).length=(pin++(LZ.toList.map fun _=>pl)).length:=by simp[h.plen]
 have hgf:∀ k,k < wc.heap.size->some k≠ov.ownBlock->k≠g:=fun k hk hne e=>by
  rcases hf with hf | hf
  ·exact hne (by rw[hf,e])
  ·have:=ha.size;omega
 refine⟨{ low:=hlo,box:=hb2,plen:=hpn,ini:=fun i o v h1 h2=>?_,last:=?_,off:=fun g' hg'=>by simp[Value.ownBlock],zlow:=fun k hk=>hk.elim (h.zlow k) (fun e=>(hr.2 k e).1),keep:=fun k hk=>?_ },L9,fun k hk hlt=>?_⟩
 ·by_cases hi:i < init.length
  ·rw[List.getElem?_append_left hi]at h1;rw[List.getElem?_append_left (by rw[<-h.plen];exact hi)]at h2;obtain⟨g1,g2⟩:=h.ini i o v h1 h2;refine⟨g1,g2.imp fun a x q1 q2=>⟨.inl q1,?_⟩⟩;have hk:=h.keep a.block (.inr q1);exact(World.cell?_of_block (hfix _ hk.1 hk.2.1 hk.2.2.1)).trans q2
  ·rw[List.getElem?_append_right (by omega)]at h1;rw[List.getElem?_append_right (by rw[<-h.plen];omega)]at h2;have hl:=h.last;cases LZ with
   | none=>simp at h1
   | some o9=>
    rw[<-h.plen]at h2;cases h8:i - init.length with
    | succ m=>rw[h8]at h1;simp at h1
    | zero=>
     rw[h8]at h1 h2;simp at h1 h2;subst h1;subst h2;refine sA (bM hl.2.1 fun g' hg'=>?_) hl.2.2 fun g' hg'=>.inr hg';exact hfix _ (hr.2 _ hg').2 (fun e=>by have:=(hr.2 _ hg').1;omega) (fun e=>h.off g' e.symm hg')
 ·refine⟨?_,⟨rfl,.inl ⟨rfl,rfl⟩⟩,fun x hx=>by cases hx⟩;rw[eG _ _ _ _ hpn,<-Mb,<-hN];refine bM ho fun g' hg'=>hset g' ?_;have e9:g=g':=by simpa [Value.ownBlock] using hg'
  omega
 ·rcases hk with hk | hk | hk
  ·have h9:=h.keep k (.inl hk);exact⟨MI h9.1 L9,h9.2.1,by have:=hgf k h9.1 h9.2.2.1;simp[Value.ownBlock];omega,by simp[Value.ownBlock]⟩
  ·have h9:=h.keep k (.inr hk);exact⟨MI h9.1 L9,h9.2.1,by have:=hgf k h9.1 h9.2.2.1;simp[Value.ownBlock];omega,by simp[Value.ownBlock]⟩
  ·have h9:=hr.2 k hk;have h8:some k≠ov.ownBlock:=fun e=>h.off k e.symm hk;exact⟨MI h9.2 L9,by omega,by have:=hgf k h9.2 h8;simp[Value.ownBlock];omega,by simp[Value.ownBlock]⟩
 ·have h9:=h.keep k (.inl hk);exact hfix k h9.1 h9.2.1 h9.2.2.1
theorem oW{init o F wc W' gb ocap pl pin Z}{ob:Obj}{p cap}(h:gG w0 init (some o) F wc (.slice (some ⟨gb,0,none⟩) (init.length+1) ocap) pl pin Z)(hp:p.length<=maxLen)(ho:W'.ownsRow (w0.heap.size+1) 9 1 (.slice (some ⟨g,0,none⟩) (o.paths.length+1) cap) (o.paths.length+1) (o.paths.map ji++[.string ⟨p.toArray⟩]))(hg:(wc.alloc ob).grownBy W' pl.ownBlock)(hf:pl.ownBlock=some g\/(wc.alloc ob).heap.size=g):gG w0 init (some ⟨o.name,o.paths++[p]⟩) F (W'.setCell ⟨gb,init.length * 2+1,none⟩ (.slice (some ⟨g,0,none⟩) (o.paths.length+1) cap)) (.slice (some ⟨gb,0,none⟩) (init.length+1) ocap) (.slice (some ⟨g,0,none⟩) (o.paths.length+1) cap) pin Z /\
 wc.heap.size<=(W'.setCell ⟨gb,init.length * 2+1,none⟩ (.slice (some ⟨g,0,none⟩) (o.paths.length+1) cap)).heap.size/\∀ k,F k->k < wc.heap.size->(W'.setCell ⟨gb,init.length * 2+1,none⟩ (.slice (some ⟨g,0,none⟩) (o.paths.length+1) cap)).heap[k]?=wc.heap[k]?:=by
 have ha:=ae wc ob;have hr:=h.rows;have hgb:=hr.1 gb rfl;have hgo:=bY ho (g:=g) rfl;obtain⟨l1,l2,l3⟩:=h.last;have hgl:w0.heap.size < wc.heap.size:=(MF.1 h.box).1;have hW:∀ k,k < wc.heap.size->some k≠pl.ownBlock->W'.heap[k]?=wc.heap[k]?:=fun k hk hn=>by
  rw[hg.block k (MI hk ha.size) hn,ha.block k hk]
 have hgne:g≠gb:=fun e=>by
  rcases hf with hf | hf
  ·exact h.off gb rfl (by rw[hf,e])
  ·have:=ha.size;omega
 have l1':W'.ownsRow (w0.heap.size+1) 47 2 (.slice (some ⟨gb,0,none⟩) (init.length+1) ocap) (init.length+1) (ba (init++[o]) (pin++[pl])):=bM l1 fun g' hg'=>by
  have e9:gb=g':=by simpa [Value.ownBlock] using hg'
  subst e9;exact hW gb hgb.2 (fun e=>h.off gb rfl e.symm)
 have l1'':=jQ l1' (by omega) (init.length * 2+1) (.slice (some ⟨g,0,none⟩) (o.paths.length+1) cap);rw[wx (o:=o) (o':=⟨o.name,o.paths++[p]⟩) h.plen rfl]at l1'';obtain⟨W2,hW2⟩:∃ W,W=W'.setCell ⟨gb,init.length * 2+1,none⟩ (.slice (some ⟨g,0,none⟩) (o.paths.length+1) cap):=⟨_,rfl⟩
 rw[<-hW2]at l1'' ⊢;have hset:∀ k,k≠gb->W2.heap[k]?=W'.heap[k]?:=fun k hk=>by rw[hW2];exact Below.heap_setCell W' ⟨gb,init.length * 2+1,none⟩ _ k hk
 have L9:wc.heap.size<=W2.heap.size:=by
  have h1:=ha.size;have h2:=hg.size;rw[hW2];simp only[World.setCell,Array.size_modify];omega
 have hos:W2.os=W'.os/\W2.tape=W'.tape/\W2.output=W'.output:=by rw[hW2];exact⟨rfl,rfl,rfl⟩
 have hfix:∀ k,k < wc.heap.size->k≠gb->some k≠pl.ownBlock->W2.heap[k]?=wc.heap[k]?:=fun k h1 h2 h3=>by rw[hset k h2,hW k h1 h3]
 have hgf:∀ k,k < wc.heap.size->some k≠pl.ownBlock->k≠g:=fun k hk hne e=>by
  rcases hf with hf | hf
  ·exact hne (by rw[hf,e])
  ·have:=ha.size;omega
 refine⟨{ low:=⟨by rw[hos.1,hg.os,ha.os,h.low.os],by rw[hos.2.1,hg.tape,ha.tape,h.low.tape],by rw[hos.2.2,hg.output,ha.output,h.low.output],MH h.low.size L9,fun k hk=>by rw[hfix k (by omega) (by omega) (fun e=>by have:=(hr.2 _ e.symm).1;omega),h.low.block k hk]⟩,box:=?_,plen:=h.plen,ini:=fun i o v h1 h2=>?_,last:=?_,off:=fun g' hg'=>?_,zlow:=h.zlow,keep:=fun k hk=>?_ },L9,fun k hk hlt=>?_⟩
 ·rw[hfix _ hgl (by omega) (fun e=>by have:=(hr.2 _ e.symm).1;omega)];exact h.box
 ·obtain⟨g1,g2⟩:=h.ini i o v h1 h2;refine⟨g1,g2.imp fun a x q1 q2=>⟨q1,?_⟩⟩;have hk:=h.keep a.block (.inr q1);exact(World.cell?_of_block (hfix _ hk.1 (fun e=>hk.2.2.1 (by rw[e];rfl)) hk.2.2.2)).trans q2
 ·refine⟨l1'',?_,fun x hx=>?_⟩
  ·have:W'.ownsRow (w0.heap.size+1) 9 1 (.slice (some ⟨g,0,none⟩) (o.paths.length+1) cap) (o.paths++[p]).length ((o.paths++[p]).map ji):=by simpa [ji] using ho
   refine bM this fun g' hg'=>hset g' ?_;have e9:g=g':=by simpa [Value.ownBlock] using hg'
   omega
  ·rcases List.mem_append.1 hx with hx | hx
   ·exact l3 x hx
   ·rw[List.mem_singleton]at hx;rw[hx];exact hp
 ·have e9:gb=g':=by simpa [Value.ownBlock] using hg'
  simp[Value.ownBlock];omega
 ·have h9:=h.keep k hk;exact⟨MI h9.1 L9,h9.2.1,h9.2.2.1,by have:=hgf k h9.1 h9.2.2.2;simp[Value.ownBlock];omega⟩
 ·have h9:=h.keep k (.inl hk);exact hfix k h9.1 (fun e=>h9.2.2.1 (by rw[e];rfl)) h9.2.2.2
variable {wr:World}
variable {y:V}
section
def jG (w:LC) (ok:Nat->Prop) (LQ:V) (L:List Lz) (la a5 b5:Option Addr) (lc c5 d5:Nat) (y:V) (a2 b2:Option Addr) (c2 d2:Nat) (wr:LC):Prop:=wr.heap[w.heap.size]?=some (.cells #[.int .i64 LQ.kind,.int .i64 LQ.n,.string ⟨LQ.s.toArray⟩,.slice a5 LQ.keys.length c5,.slice b5 LQ.l.length d5,.slice la L.length lc] 49)/\ag wr (w.heap.size+1) (.int .i64 y.kind) (.int .i64 y.n) (.string ⟨y.s.toArray⟩) (.slice a2 y.keys.length c2) (.slice b2 y.l.length d2)/\ag wr (w.heap.size+2) (.int .i64 0) (.int .i64 0) (.string ⟨#[]⟩) (.slice none 0 0) (.slice none 0 0)/\La w wr/\In wr (bg ok w.heap.size (w.heap.size+3)) y (.agg #[.int .i64 y.kind,.int .i64 y.n,.string ⟨y.s.toArray⟩,.slice a2 y.keys.length c2,.slice b2 y.l.length d2])
theorem jG.bel{wr':LC}{LQ L la a5 b5 lc c5 d5 a2 b2 c2 d2}(h:jG w ok LQ L la a5 b5 lc c5 d5 y a2 b2 c2 d2 wr)(hb:La wr wr'):jG w ok LQ L la a5 b5 lc c5 d5 y a2 b2 c2 d2 wr':=
 ⟨bR hb h.1,af hb h.2.1,af hb h.2.2.1,ab h.2.2.2.1 hb,h.2.2.2.2.bel hb⟩
theorem jG.put{LQ L la a5 b5 lc c5 d5 z a2 b2 a4 b4 c2 d2 c4 d4}(h:jG w ok LQ L la a5 b5 lc c5 d5 y a2 b2 c2 d2 wr)(hz:In wr (bg ok w.heap.size (w.heap.size+3)) z (.agg #[.int .i64 z.kind,.int .i64 z.n,.string ⟨z.s.toArray⟩,.slice a4 z.keys.length c4,.slice b4 z.l.length d4])):jG w ok LQ L la a5 b5 lc c5 d5 z a4 b4 c4 d4 (ar wr (w.heap.size+1) (.int .i64 z.kind) (.int .i64 z.n) (.string ⟨z.s.toArray⟩) (.slice a4 z.keys.length c4) (.slice b4 z.l.length d4)):=by
 have gb:=aI wr (w.heap.size+1) (.int .i64 z.kind) (.int .i64 z.n) (.string ⟨z.s.toArray⟩) (.slice a4 z.keys.length c4) (.slice b4 z.l.length d4);exact⟨(gb.block _ (MF.1 h.1).1 (by simp)).trans h.1,h.2.1.set _ _ _ _ _,h.2.2.1.grown gb (by simp),aP h.2.2.2.1 (by omega) _ _ _ _ _,hz.box (by omega) (by omega) _ _ _ _ _⟩
theorem jG.size{LQ L la a5 b5 lc c5 d5 a2 b2 c2 d2}(h:jG w ok LQ L la a5 b5 lc c5 d5 y a2 b2 c2 d2 wr):w.heap.size+3<=wr.heap.size:=h.2.2.1.lt
theorem Ka{C z}(h:In W (bQ (bg ok B (B+3)) C) z v)(hC:B+3<=C):In W (bg ok B (B+3)) z v:=h.weak fun k hk=>by
 rcases hk with hk | hk
 ·exact hk
 ·exact Or.inr (MH hC hk)
theorem Ft{C z}(h:In W (fun k=>ok k/\k < B) z v):In W (bg ok B C) z v:=h.weak fun k hk=>.inl hk
attribute [local go_sem ↓] Go.wp_at_zero Go.wp_at_succ
theorem uz(w:LC)(ok LQ t L wv v)(h:dB w ok LQ L wv)(ht:In w ok t v)(hM:bj w)(hob:fL t)(hwo:fL LQ)(hL:∀ p∈L,p.length<=140737488351232/\aw p≠[]/\(aw p).length+bN ((dr (aw p) LQ).getD aM)<=300)(hn:L.length<=200)(hc:bN t<=20000):Calls prog 30 #[wv,v] w fun e w'=>∃ r,e=.returned r/\In w' (bQ ok w.heap.size) (ed LQ L t) r/\La w w':=by
 obtain⟨a5,b5,la,c5,d5,lc,rfl,h1,h2⟩:=h;obtain⟨a1,b1,c1,d1,rfl⟩:=ht.form;have HT:=aa ht.low;have HW:=aa h1.low;have HLS:=aa h2;have GM:Ll (∀ W,La w W->bj W):=fun W hW=>hM.bel hW;have HWO:=aa hwo;have HL:=aa hL;have HN:=aa hn;have ll:=h2.1;unfold maxLen at ll;have I0:Ll (∃ (y:V) (a2 b2:Option Addr) (c2 d2:Nat),Ll (ed LQ L t=ed LQ (L.drop 0) y/\fL y/\bN y<=20000+0 * 300)/\Ll (jG w ok LQ L la a5 b5 lc c5 d5 y a2 b2 c2 d2 (((w.alloc (.cells #[.int .i64 LQ.kind,.int .i64 LQ.n,.string ⟨LQ.s.toArray⟩,.slice a5 LQ.keys.length c5,.slice b5 LQ.l.length d5,.slice la L.length lc] 49)).alloc (.cells #[.int .i64 t.kind,.int .i64 t.n,.string ⟨t.s.toArray⟩,.slice a1 t.keys.length c1,.slice b1 t.l.length d1] 25)).alloc (.cells #[.int .i64 0,.int .i64 0,.string ⟨#[]⟩,.slice none 0 0,.slice none 0 0] 25)))):=aa ⟨t,a1,b1,c1,d1,aa ⟨rfl,hob,by omega⟩,aa ⟨lI _ _ _ _,mE _ _ _ _,jI _ _ _ _,ab (ab (ae _ _) (ae _ _)) (ae _ _),(Ft HT.o).bel (ab (ab (ae _ _) (ae _ _)) (ae _ _))⟩⟩;clear h1 h2 ht hM hob hwo hL hn hc;obtain⟨WV,hWV⟩:∃ W,W=((w.alloc (.cells #[.int .i64 LQ.kind,.int .i64 LQ.n,.string ⟨LQ.s.toArray⟩,.slice a5 LQ.keys.length c5,.slice b5 LQ.l.length d5,.slice la L.length lc] 49)).alloc (.cells #[.int .i64 t.kind,.int .i64 t.n,.string ⟨t.s.toArray⟩,.slice a1 t.keys.length c1,.slice b1 t.l.length d1] 25)).alloc (.cells #[.int .i64 0,.int .i64 0,.string ⟨#[]⟩,.slice none 0 0,.slice none 0 0] 25):=⟨_,rfl⟩
 rw[<-hWV]at I0;have q5:WV.cell? ⟨w.heap.size,5,none⟩=some (.slice la L.length lc):=by
  obtain⟨_,_,_,_,_,-,h9⟩:=I0.o;exact(lr h9.o.1).2.2.2.2.2
 have HWV:=aa hWV;clear hWV;go_enter func30,ntmps30;go_upto_region 1 with fail
 rw[<-HWV.o];go_upto_region 2 with fail
 clear q5;go_loopg [12] L.length (fun gk i wr=>∃ k:Nat,k<=L.length/\gk=L.length - k/\i=.int .i64 k/\∃ (y:V) (a2 b2:Option Addr) (c2 d2:Nat),Ll (ed LQ L t=ed LQ (L.drop k) y/\fL y/\bN y<=20000+k * 300)/\Ll (jG w ok LQ L la a5 b5 lc c5 d5 y a2 b2 c2 d2 wr))
 case atStart=>exact⟨0,Nat.zero_le _,rfl,rfl,I0.o⟩
 case round=>
  obtain⟨k,hk,hgk,rfl,y,a2,b2,c2,d2,IY,KR⟩:=hrel;have GK:=aa hgk;clear hgk;by_cases hlt:k < L.length
  ·obtain⟨b,off,rfl,j1,j2,hcl⟩:=gQ HLS.o hlt;unfold maxLen at j2;have LV:=ah KR.o.2.2.2.1 hcl;have w2:(k:Int) < (L.length:Int):=by omega
   have w3:(0:Int)<=(k:Int):=by omega
   obtain⟨hp1,hp2,hp3⟩:=HL.o L[k] (List.getElem_mem hlt);have FS:Ll (ed LQ (L.drop k) y=ed LQ (L.drop (k+1)) (TF (aw L[k]) y ((dr (aw L[k]) LQ).getD aM))):=aa (by rw[ME hlt];rfl);obtain⟨p,hp⟩:∃ p,L[k]=p:=⟨_,rfl⟩
   rw[hp]at LV hp1 hp2 hp3 FS;clear hp hcl;obtain⟨x,hx⟩:∃ x,(dr (aw p) LQ).getD aM=x:=⟨_,rfl⟩
   obtain⟨th,hth⟩:∃ x,(dr (aw p) LQ).isSome=x:=⟨_,rfl⟩
   rw[hx]at hp3 FS;obtain⟨z,hz⟩:∃ z,TF (aw p) y x=z:=⟨_,rfl⟩
   have HZ:=aa hz;have HPL:=aa hp1;have NNE:=aa hp2;have OX:Ll (fL x):=aa (by rw[<-hx];exact jW HWO.o _);have OY:=aa IY.o.2.1;have CY:Ll (bN y<=90000):=aa (by have:=IY.o.2.2;have:=HN.o;omega);have OZ:Ll (fL z):=aa (by rw[<-hz];exact iY _ _ _ OY.o OX.o);have CZ:Ll (bN z<=20000+(k+1) * 300):=aa (by
    have h1:=uY (aw p) y x;have h2:=IY.o.2.2;rw[hz]at h1;omega)
   have HD:=aa IY.o.1;have ST:=aa (gD wr (Lj ok w) LQ (.agg #[.int .i64 LQ.kind,.int .i64 LQ.n,.string ⟨LQ.s.toArray⟩,.slice a5 LQ.keys.length c5,.slice b5 LQ.l.length d5]) p (by exact HW.o.bel KR.o.2.2.2.1) hp1 (GM.o _ KR.o.2.2.2.1));rw[hx,hth]at ST;clear hx hth hz hp1 hp2 hp3;obtain⟨q0,q1,q2,q3,q4,q5⟩:=lr KR.o.1;go_upto_region 5 with (go_at_call 56;refine ST.o.mono ?_;rintro e w4 ⟨r,rfl,hb4,hr4⟩;obtain⟨a3,b3,c3,d3,rfl⟩:=hr4.form;have B4:=aa hb4;have X4:=aa hr4;clear hb4 hr4)
   clear q0 q1 q2 q3 q4 q5;obtain⟨WX,hWX⟩:∃ W,W=w4.alloc (.cells #[.int .i64 x.kind,.int .i64 x.n,.string ⟨x.s.toArray⟩,.slice a3 x.keys.length c3,.slice b3 x.l.length d3] 25):=⟨_,rfl⟩
   have XB:Ll (ag WX w4.heap.size (.int .i64 x.kind) (.int .i64 x.n) (.string ⟨x.s.toArray⟩) (.slice a3 x.keys.length c3) (.slice b3 x.l.length d3)):=aa (by rw[hWX];exact MN _ _);have BX:Ll (La wr WX):=aa (by rw[hWX];exact ab B4.o (ae _ _));have XI:Ll (In WX (Lj ok w) x (.agg #[.int .i64 x.kind,.int .i64 x.n,.string ⟨x.s.toArray⟩,.slice a3 x.keys.length c3,.slice b3 x.l.length d3])):=aa (by rw[hWX];exact X4.o.bel (ae _ _));have KX:=aa (KR.o.bel BX.o);rw[<-hWX];clear hWX LV;refine aD (fun wS=>La WX wS) [5] (by kernel_rfl) (aC _ 1) (fun LI=>?_);refine WT.out ?_;iterate 3
    first
     | refine OJ 0 ?_ [4,5] LI ?_ ?_
     | refine OJ 1 ?_ [2,4,5] LI ?_ ?_
     | refine OJ 3 ?_ [4,5] LI ?_ ?_
    rotate_left
    ·intro wS LN;have u0_:=(KX.o.bel LN).2.1.c;have f0_:=(af LN XB.o).c;go_simp;all_goals with_reducible rfl
    simp only[av,List.set]
   repeat' (first
    | exact nl
    |(refine TD 2 (fun K hK=>?_) ?_
      go_simp;refine(lH _ p HPL.o (GM.o _ (ab KX.o.2.2.2.1 LI))).mono ?_;rintro e w2q ⟨na,nc,rfl,hns,hb5⟩;refine hK.out _ _ (ab LI hb5) (fun LJ=>?_);have NS:=aa hns;clear hb5 hns;clear hK K;replace LI:=LJ;clear LJ;try simp only[Act.put,Mt,Mu,Mv])
    |(refine TD 4 (fun K hK=>?_) ?_
      go_simp;refine(DX (aw p) _ (bg ok w.heap.size (w.heap.size+3)) _ y x _ _ _ (by exact KX.o.2.2.2.2.bel LI) (by exact Ft (XI.o.bel LI)) (by exact NS.o) NNE.o OY.o CY.o).mono ?_;rintro e w4q ⟨rv,rfl,hr5,hb5⟩;rw[HZ.o]at hr5;obtain⟨a4,b4,c4,d4,rfl⟩:=hr5.form;refine hK.out _ _ (ab LI hb5) (fun LJ=>?_);have ZI:=aa (Ka hr5 (MH KX.o.size LI.size));clear hb5 hr5;clear hK K;replace LI:=LJ;clear LJ;try simp only[Act.put,Mt,Mu,Mv])
    |(refine OO 5 (fun K hK=>?_)
      have K8:=aa (KX.o.bel LI);have n0_:=K8.o.2.1.c;have K9:=aa (K8.o.put ZI.o);go_simp;refine hK.out _ _ ?_;clear hK K;try simp only[Act.put,Mt,Mu,Mv])
    | refine OL [2] ?_
    | refine OL [4] ?_
    | fail)
   all_goals
    refine dn (by kernel_rfl) ?_;go_wp2
    go_roundg (L.length - (k+1))
    case measure=>rw[GK.o];omega
    case rel=>exact⟨k+1,hlt,rfl,by go_num,z,_,_,_,_,aa ⟨by rw[HD.o,FS.o,HZ.o],OZ.o,CZ.o⟩,K9⟩
  ·have d9:¬(k:Int) < (L.length:Int):=by omega
   have RES:Ll (ed LQ L t=y):=aa (by rw[IY.o.1,List.drop_eq_nil_of_le (by omega)];rfl);have v0_:=KR.o.2.1.c;have n0_:=KR.o.2.2.1.c;have ZB:=aa (KR.o.2.2.1.set (.int .i64 y.kind) (.int .i64 y.n) (.string ⟨y.s.toArray⟩) (.slice a2 y.keys.length c2) (.slice b2 y.l.length d2));have Z:=aa (cY (w:=w) (ok:=ok) (C:=w.heap.size+3) (g:=w.heap.size+2) KR.o.2.2.2.2 KR.o.2.2.2.1 (by omega) (by omega));go_wp2
   have z0_:=ZB.o.c;refine MM (v:=.agg #[.int .i64 y.kind,.int .i64 y.n,.string ⟨y.s.toArray⟩,.slice a2 y.keys.length c2,.slice b2 y.l.length d2]) ?_ rfl ?_
   ·simp only[ar]at z0_;simp[results,results30,go_sem,z0_]
   ·exact⟨_,rfl,by rw[RES.o];exact Z.o.2,Z.o.1⟩
end
section
attribute [local go_sem ↓] Go.wp_at_zero Go.wp_at_succ
theorem yY(w:LC)(ok okh oko LQ t L had LX wv v hv ov)(h:dB w ok LQ L wv)(ht:In w ok t v)(hh:ao w okh had hv)(ho:aB w oko LX ov)(hM:bj w)(hob:fL t)(hk5:t.kind=5)(hL:∀ p∈had,p.length<=140737488351232/\aw p≠[])(hr:bD L)(hn:L.length < 4611686018427387904)(hc:bN t<=20000):Calls prog 31 #[wv,v,hv,ov] w fun e w'=>∃ r,e=.returned r/\In w' (bQ ok w.heap.size) (dj L LX had t) r/\La w w'/\fL (dj L LX had t)/\bN (dj L LX had t)<=20000/\(dj L LX had t).kind=5:=by
 have HWI:=aa h;obtain⟨a5,b5,la,c5,d5,lc,rfl,h1,h2⟩:=h;obtain⟨a1,b1,c1,d1,rfl⟩:=ht.form;obtain⟨oa,oc,rfl⟩:=ho.form;obtain⟨ha,hcp,rfl⟩:=hh.form;have HT:=aa ht.low;have HHS:=aa hh;have HOS:=aa ho;have GM:Ll (∀ W,La w W->bj W):=fun W hW=>hM.bel hW;have HL:=aa hL;have HR:=aa hr;have HN:=aa hn;have ll:=h2.1;unfold maxLen at ll;have lh:=hh.1;unfold maxLen at lh;have I0:Ll (∃ (y:V) (a2 b2:Option Addr) (c2 d2:Nat),Ll (dj L LX had t=dj L LX (had.drop 0) y/\fL y/\bN y<=20000/\y.kind=5)/\Ll (jG w ok LQ L la a5 b5 lc c5 d5 y a2 b2 c2 d2 (((w.alloc (.cells #[.int .i64 LQ.kind,.int .i64 LQ.n,.string ⟨LQ.s.toArray⟩,.slice a5 LQ.keys.length c5,.slice b5 LQ.l.length d5,.slice la L.length lc] 49)).alloc (.cells #[.int .i64 t.kind,.int .i64 t.n,.string ⟨t.s.toArray⟩,.slice a1 t.keys.length c1,.slice b1 t.l.length d1] 25)).alloc (.cells #[.int .i64 0,.int .i64 0,.string ⟨#[]⟩,.slice none 0 0,.slice none 0 0] 25)))):=aa ⟨t,a1,b1,c1,d1,aa ⟨rfl,hob,hc,hk5⟩,aa ⟨lI _ _ _ _,mE _ _ _ _,jI _ _ _ _,ab (ab (ae _ _) (ae _ _)) (ae _ _),(Ft HT.o).bel (ab (ab (ae _ _) (ae _ _)) (ae _ _))⟩⟩;clear h1 h2 ht hM hob hL hn hc hk5 hr hh ho;go_enter func31,ntmps31;go_upto_region 2 with fail
 go_loopg [15] had.length (fun gk i wr=>∃ k:Nat,k<=had.length/\gk=had.length - k/\i=.int .i64 k/\∃ (y:V) (a2 b2:Option Addr) (c2 d2:Nat),Ll (dj L LX had t=dj L LX (had.drop k) y/\fL y/\bN y<=20000/\y.kind=5)/\Ll (jG w ok LQ L la a5 b5 lc c5 d5 y a2 b2 c2 d2 wr))
 case atStart=>exact⟨0,Nat.zero_le _,rfl,rfl,I0.o⟩
 case round=>
  obtain⟨k,hk,hgk,rfl,y,a2,b2,c2,d2,IY,KR⟩:=hrel;have GK:=aa hgk;clear hgk;by_cases hlt:k < had.length
  ·obtain⟨b,off,rfl,j1,j2,hcl⟩:=gQ HHS.o hlt;unfold maxLen at j2;have LV:=ah KR.o.2.2.2.1 hcl;have w2:(k:Int) < (had.length:Int):=by omega
   have w3:(0:Int)<=(k:Int):=by omega
   obtain⟨hp1,hp2⟩:=HL.o had[k] (List.getElem_mem hlt);have FS:Ll (dj L LX (had.drop k) y=dj L LX (had.drop (k+1)) (if ((dr (aw had[k]) y).isSome&&!(L.contains had[k] || concF LX had[k]))=true then gI (aw had[k]) y else y)):=aa (by rw[ME hlt];rfl);obtain⟨p,hp⟩:∃ p,had[k]=p:=⟨_,rfl⟩
   rw[hp]at LV hp1 hp2 FS;clear hp hcl;have HPL:=aa hp1;have NNE:=aa hp2;have OY:=aa IY.o.2.1;have CY:Ll (bN y<=90000):=aa (by have:=IY.o.2.2.1;omega);have HD:=aa IY.o.1;have ST:=aa (gD wr (bg ok w.heap.size (w.heap.size+3)) y (.agg #[.int .i64 y.kind,.int .i64 y.n,.string ⟨y.s.toArray⟩,.slice a2 y.keys.length c2,.slice b2 y.l.length d2]) p (by exact KR.o.2.2.2.2) hp1 (GM.o _ KR.o.2.2.2.1));obtain⟨x,hx⟩:∃ x,(dr (aw p) y).getD aM=x:=⟨_,rfl⟩
   obtain⟨th,hth⟩:∃ x,(dr (aw p) y).isSome=x:=⟨_,rfl⟩
   rw[hx,hth]at ST;rw[hth]at FS;have HTH:=aa hth;have HLF:Ll (∀ W,La w W->Calls prog 58 #[.agg #[.int .i64 LQ.kind,.int .i64 LQ.n,.string ⟨LQ.s.toArray⟩,.slice a5 LQ.keys.length c5,.slice b5 LQ.l.length d5,.slice la L.length lc],.string ⟨p.toArray⟩] W fun e w'=>e=.returned (.bool (L.contains p))/\La W w'):=fun W hW=>pN W ok LQ L _ p (HWI.o.bel hW) HR.o HN.o;have HCO:Ll (∀ W,La w W->Calls prog 65 #[.slice oa LX.length oc,.string ⟨p.toArray⟩] W fun e w'=>e=.returned (.bool (concF LX p))/\La W w'):=fun W hW=>tH W oko LX _ p (HOS.o.bel hW);generalize L.contains p=o1 at FS HLF;generalize concF LX p=o2 at FS HCO;clear hx hth hp1 hp2;have v0_:=KR.o.2.1.c;go_upto_region 5 with (go_at_call 56;refine ST.o.mono ?_;rintro e w4 ⟨r,rfl,hb4,hr4⟩;obtain⟨a3,b3,c3,d3,rfl⟩:=hr4.form;have B4:=aa hb4;clear hb4 hr4)
   obtain⟨WX,hWX⟩:∃ W,W=w4.alloc (.cells #[.int .i64 x.kind,.int .i64 x.n,.string ⟨x.s.toArray⟩,.slice a3 x.keys.length c3,.slice b3 x.l.length d3] 25):=⟨_,rfl⟩
   have BX:Ll (La wr WX):=aa (by rw[hWX];exact ab B4.o (ae _ _));have KA:=aa (KR.o.bel BX.o);rw[<-hWX];clear hWX LV;obtain⟨q0,q1,q2,q3,q4,q5⟩:=lr KA.o.1;cases th with
   | false=>
    have COND:Ll (¬(false&&!(o1 || o2))=true):=aa (by simp);go_wp2
    go_roundg (had.length - (k+1))
    case measure=>rw[GK.o];omega
    case rel=>exact⟨k+1,hlt,rfl,by go_num,y,_,_,_,_,aa ⟨by rw[HD.o,FS.o,if_neg COND.o],OY.o,IY.o.2.2.1,IY.o.2.2.2⟩,KA⟩
   | true=>
    cases o1 with
    | true=>
     have COND:Ll (¬(true&&!(true || o2))=true):=aa (by simp);go_wp2_with (go_at_call 58;refine Lk (HLF.o _ KA.o.2.2.2.1) fun w5 hb5=>?_;have K5:=aa (KA.o.bel hb5);clear hb5)
     go_roundg (had.length - (k+1))
     case measure=>rw[GK.o];omega
     case rel=>exact⟨k+1,hlt,rfl,by go_num,y,_,_,_,_,aa ⟨by rw[HD.o,FS.o,if_neg COND.o],OY.o,IY.o.2.2.1,IY.o.2.2.2⟩,K5⟩
    | false=>
     cases o2 with
     | true=>
      have COND:Ll (¬(true&&!(false || true))=true):=aa (by simp);go_wp2_with (first
       |(go_at_call 58;refine Lk (HLF.o _ KA.o.2.2.2.1) fun w5 hb5=>?_;have K5:=aa (KA.o.bel hb5);clear hb5)
       |(go_at_call 65;refine Lk (HCO.o _ K5.o.2.2.2.1) fun w6 hb6=>?_;have K6:=aa (K5.o.bel hb6);clear hb6))
      go_roundg (had.length - (k+1))
      case measure=>rw[GK.o];omega
      case rel=>exact⟨k+1,hlt,rfl,by go_num,y,_,_,_,_,aa ⟨by rw[HD.o,FS.o,if_neg COND.o],OY.o,IY.o.2.2.1,IY.o.2.2.2⟩,K6⟩
     | false=>
      have COND:Ll ((true&&!(false || false))=true):=aa (by simp);have THY:Ll (∃ y9,dr (aw p) y=some y9):=Option.isSome_iff_exists.1 HTH.o;obtain⟨z,hz⟩:∃ z,gI (aw p) y=z:=⟨_,rfl⟩
      have HZ:=aa hz;have OUT:=tr (aw p) y OY.o IY.o.2.2.2 THY.o;have OZ:Ll (fL z):=aa (by rw[<-hz];exact OUT.1);have KZ:Ll (z.kind=5):=aa (by rw[<-hz,OUT.2,if_neg NNE.o]);have CZ:Ll (bN z<=20000):=aa (by rw[<-hz];exact MH (zP _ _ THY.o) IY.o.2.2.1);clear OUT hz;go_upto_region 6 with (first
       |(go_at_call 58;refine Lk (HLF.o _ KA.o.2.2.2.1) fun w5 hb5=>?_;have K5:=aa (KA.o.bel hb5);clear hb5)
       |(go_at_call 65;refine Lk (HCO.o _ K5.o.2.2.2.1) fun w6 hb6=>?_;have KX:=aa (K5.o.bel hb6);clear hb6))
      clear q0 q1 q2 q3 q4 q5;refine aD (fun wS=>La w6 wS) [4] (by kernel_rfl) (aC _ 1) (fun LI=>?_);refine WT.out ?_;iterate 2
       first
        | refine OJ 0 ?_ [3,4] LI ?_ ?_
        | refine OJ 1 ?_ [2,3,4] LI ?_ ?_
       rotate_left
       ·intro wS LN;have u0_:=(KX.o.bel LN).2.1.c;go_simp;all_goals with_reducible rfl
       simp only[av,List.set]
      repeat' (first
       | exact nl
       |(refine TD 2 (fun K hK=>?_) ?_
         go_simp;refine(lH _ p HPL.o (GM.o _ (ab KX.o.2.2.2.1 LI))).mono ?_;rintro e w2q ⟨na,nc,rfl,hns,hb5⟩;refine hK.out _ _ (ab LI hb5) (fun LJ=>?_);have NS:=aa hns;clear hb5 hns;clear hK K;replace LI:=LJ;clear LJ;try simp only[Act.put,Mt,Mu,Mv])
       |(refine TD 3 (fun K hK=>?_) ?_
         go_simp;refine(xw (aw p) _ (bg ok w.heap.size (w.heap.size+3)) _ y _ _ (by exact KX.o.2.2.2.2.bel LI) (by exact NS.o) NNE.o OY.o THY.o CY.o).mono ?_;rintro e w3q ⟨rv,rfl,hr5,hb5⟩;rw[HZ.o]at hr5;obtain⟨a4,b4,c4,d4,rfl⟩:=hr5.form;refine hK.out _ _ (ab LI hb5) (fun LJ=>?_);have ZI:=aa (Ka hr5 (MH KX.o.size LI.size));clear hb5 hr5;clear hK K;replace LI:=LJ;clear LJ;try simp only[Act.put,Mt,Mu,Mv])
       |(refine OO 4 (fun K hK=>?_)
         have K8:=aa (KX.o.bel LI);have n0_:=K8.o.2.1.c;have K9:=aa (K8.o.put ZI.o);go_simp;refine hK.out _ _ ?_;clear hK K;try simp only[Act.put,Mt,Mu,Mv])
       | refine OL [2] ?_
       | refine OL [3] ?_
       | fail)
      all_goals
       refine dn (by kernel_rfl) ?_;go_wp2
       go_roundg (had.length - (k+1))
       case measure=>rw[GK.o];omega
       case rel=>exact⟨k+1,hlt,rfl,by go_num,z,_,_,_,_,aa ⟨by rw[HD.o,FS.o,if_pos COND.o,HZ.o],OZ.o,CZ.o,KZ.o⟩,K9⟩
  ·have d9:¬(k:Int) < (had.length:Int):=by omega
   have RES:Ll (dj L LX had t=y):=aa (by rw[IY.o.1,List.drop_eq_nil_of_le (by omega)];rfl);have v0_:=KR.o.2.1.c;have n0_:=KR.o.2.2.1.c;have ZB:=aa (KR.o.2.2.1.set (.int .i64 y.kind) (.int .i64 y.n) (.string ⟨y.s.toArray⟩) (.slice a2 y.keys.length c2) (.slice b2 y.l.length d2));have Z:=aa (cY (w:=w) (ok:=ok) (C:=w.heap.size+3) (g:=w.heap.size+2) KR.o.2.2.2.2 KR.o.2.2.2.1 (by omega) (by omega));go_wp2
   have z0_:=ZB.o.c;refine MM (v:=.agg #[.int .i64 y.kind,.int .i64 y.n,.string ⟨y.s.toArray⟩,.slice a2 y.keys.length c2,.slice b2 y.l.length d2]) ?_ rfl ?_
   ·simp only[ar]at z0_;simp[results,results31,go_sem,z0_]
   ·exact⟨_,rfl,by rw[RES.o];exact Z.o.2,Z.o.1,by rw[RES.o];exact IY.o.2⟩
end
variable {k:Nat}
theorem mx{α:Type}{xs ys:List α}(h:xs.take k=ys.take k)(hx:k < xs.length)(hy:k < ys.length)(he:xs[k]=ys[k]):xs.take (k+1)=ys.take (k+1):=by
 rw[List.take_succ_eq_append_getElem hx,List.take_succ_eq_append_getElem hy,h,he]
theorem Pl{a b:aL}(h1:a.name=b.name)(h2:a.paths=b.paths):a=b:=by cases a;cases b;cases h1;cases h2;rfl
open Classical in
theorem DO(w:LC)(ok ok':Nat->Prop)(xs ys:List aL)(v u:Value)(h:aB w ok xs v)(h':aB w ok' ys u):Calls prog 10 #[v,u] w fun e w'=>e=.returned (.bool (decide (xs=ys)))/\La w w':=by
 have H:=aa h;have H':=aa h';obtain⟨a,c,rfl⟩:=h.form;obtain⟨a',c',rfl⟩:=h'.form;have ll:=h.1;have ll':=h'.1;unfold maxLen at ll ll';clear h h';by_cases hl:xs.length=ys.length
 ·have q0:((xs.length:Int) != (ys.length:Int))=false:=by simp[hl]
  have q00:((xs.length:Int) == (ys.length:Int))=true:=by simp[hl]
  have HLN:=aa hl;rw[<-hl];clear hl;go_enter func10,ntmps10;go_wp2_with fail
  clear q0 q00;go_loopg [14] xs.length (fun gk i wr=>∃ k:Nat,k<=xs.length/\gk=xs.length - k/\i=.int .i64 k/\Ll (xs.take k=ys.take k)/\Ll (La w wr))
  case atStart=>exact⟨0,Nat.zero_le _,rfl,rfl,rfl,MK _ _⟩
  case round=>
   obtain⟨k,hk,hgk,rfl,AL,BL⟩:=hrel;have GK:=aa hgk;clear hgk;by_cases hlt:k < xs.length
   ·have hlt':k < ys.length:=HLN.o ▸ hlt;obtain⟨b,off,pa,pc,rfl,hc1,hc2,hn0,hp0,hst,hnl⟩:=H.o.at hlt;obtain⟨b',off',pa',pc',rfl,hc1',hc2',hn0',hp0',hst',hnl'⟩:=H'.o.at hlt';have w2:(k:Int) < (xs.length:Int):=by omega
    have w3:(0:Int)<=(k:Int):=by omega
    have TK:Ll (xs[k].name=ys[k].name->xs[k].paths=ys[k].paths->xs.take (k+1)=ys.take (k+1)):=fun h1 h2=>mx AL.o hlt hlt' (Pl h1 h2);have NE:Ll (¬(xs[k].name=ys[k].name/\xs[k].paths=ys[k].paths)->decide (xs=ys)=false):=fun h9=>decide_eq_false (fun e=>h9 (by subst e;exact⟨rfl,rfl⟩));obtain⟨x,hx⟩:∃ x,xs[k]=x:=⟨_,rfl⟩
    obtain⟨y,hy⟩:∃ y,ys[k]=y:=⟨_,rfl⟩
    rw[hx]at hn0 hp0 hst TK NE hnl;rw[hy]at hn0' hp0' hst' TK NE hnl';clear hx hy;obtain⟨nm,hnm⟩:∃ n,x.name=n:=⟨_,rfl⟩
    obtain⟨ps,hps⟩:∃ n,x.paths=n:=⟨_,rfl⟩
    obtain⟨nm',hnm'⟩:∃ n,y.name=n:=⟨_,rfl⟩
    obtain⟨ps',hps'⟩:∃ n,y.paths=n:=⟨_,rfl⟩
    rw[hnm]at hn0 TK NE;rw[hps]at hp0 hst TK NE;rw[hnm']at hn0' TK NE;rw[hps']at hp0' hst' TK NE;clear hnm hps hnm' hps' hnl hnl';have ST:=aa hst;have ST':=aa hst';have pl:=hst.1;have pl':=hst'.1;unfold maxLen at pl pl';clear hst hst';have N0:=aa hn0;have P0:=aa hp0;have N0':=aa hn0';have P0':=aa hp0';clear hn0 hp0 hn0' hp0';have n0:=ah BL.o N0.o;have p0:=ah BL.o P0.o;have n0':=ah BL.o N0'.o;have p0':=ah BL.o P0'.o;have BD:Ll (La w wr.drew):=ab BL.o (aC wr 1);have cs:(nm == nm')=false\/(nm=nm'/\((ps.length:Int) == (ps'.length:Int))=false)\/(nm=nm'/\ps.length=ps'.length):=by
     by_cases h1:nm=nm'
     ·by_cases h2:ps.length=ps'.length
      ·exact .inr (.inr ⟨h1,h2⟩)
      ·exact .inr (.inl ⟨h1,by rw[MO];omega⟩)
     ·exact .inl (by rw[MO];exact h1)
    rcases cs with e9 | ⟨e8,e9⟩ | ⟨e8,e9⟩
    ·have R:=aa (NE.o (fun h=>by rw[h.1]at e9;simp at e9));go_wp2_with fail
     go_region
     all_goals
      go_wp2_with fail
      go_ret;exact⟨by rw[R.o];rfl,BD.o⟩
    ·have R:=aa (NE.o (fun h=>by rw[h.2]at e9;simp at e9));have e7:((ps.length:Int) != (ps'.length:Int))=true:=by rw[bne,e9];rfl
     subst e8;go_wp2_with fail
     go_region
     all_goals
      go_wp2_with fail
      go_ret;exact⟨by rw[R.o];rfl,BD.o⟩
    ·have LE:=aa e9;have e7:((ps.length:Int) != (ps'.length:Int))=false:=by simp[e9]
     have e6:((ps.length:Int) == (ps'.length:Int))=true:=by simp[e9]
     subst e8;have TKP:=aa (TK.o rfl);have NEP:Ll (ps≠ps'->decide (xs=ys)=false):=fun h=>NE.o (fun h9=>h h9.2);clear TK NE;obtain⟨n',hn'⟩:∃ n,ps'.length=n:=⟨_,rfl⟩
     have hnn:n'=ps.length:=by rw[<-hn',e9]
     rw[hn',hnn]at P0' ST' p0' pl';clear e7 e6 hn';clear e9;subst hnn;have e7:((ps.length:Int) != (ps.length:Int))=false:=by simp
     go_wp2_with fail
     go_region
     go_wp2_with fail
     clear n0 p0 n0' p0' e7;go_loopg [49] ps.length (fun gk i wj=>∃ j:Nat,j<=ps.length/\gk=ps.length - j/\i=.int .i64 j/\Ll (ps.take j=ps'.take j)/\Ll (La w wj))
     case atStart=>exact⟨0,Nat.zero_le _,rfl,rfl,rfl,BD⟩
     case round=>
      obtain⟨j,hj,hgj,rfl,AJ,BJ⟩:=hrel;have GJ:=aa hgj;clear hgj;by_cases hjt:j < ps.length
      ·have hjt':j < ps'.length:=LE.o ▸ hjt;obtain⟨kb,ko,rfl,j1,j2,jk⟩:=gQ ST.o hjt;obtain⟨xb,xo,hxe,j3,j4,jx⟩:=gQ ST'.o hjt';subst hxe;unfold maxLen at j2 j4;have j5:(j:Int) < (ps.length:Int):=by omega
       have j6:(0:Int)<=(j:Int):=by omega
       have n0:=ah BJ.o P0.o;have n1:=ah BJ.o P0'.o;have TJ:Ll (ps[j]=ps'[j]->ps.take (j+1)=ps'.take (j+1)):=mx AJ.o hjt hjt';have NJ:Ll (ps[j]≠ps'[j]->decide (xs=ys)=false):=fun h9=>NEP.o (fun h=>h9 (by subst h;rfl));obtain⟨p,hp⟩:∃ p,ps[j]=p:=⟨_,rfl⟩
       obtain⟨p',hp'⟩:∃ p,ps'[j]=p:=⟨_,rfl⟩
       rw[hp]at jk TJ NJ;rw[hp']at jx TJ NJ;clear hp hp';have d0:=ah BJ.o jk;have d1:=ah BJ.o jx;clear jk jx;have BE:Ll (La w wr.drew):=ab BJ.o (aC wr 1);by_cases he:p=p'
       ·have T2:=aa (TJ.o he);subst he;clear TJ NJ;go_wp2_with fail
        go_region
        go_wp2_with fail
        go_roundg (ps.length - (j+1))
        case measure=>rw[GJ.o];omega
        case rel=>exact⟨j+1,hjt,rfl,by go_num,T2,BE⟩
       ·have R:=aa (NJ.o he);have e9:(p == p')=false:=by rw[MO];exact he
        clear TJ NJ he;go_wp2_with fail
        go_region
        go_wp2_with fail
        go_ret;exact⟨by rw[R.o];rfl,BE.o⟩
      ·have d9:¬(j:Int) < (ps.length:Int):=by omega
       have T2:=aa (TKP.o (by
        have:=AJ.o;rwa [MD (by omega),MD (by have:=LE.o;omega)]at this))
       go_wp2_with fail
       go_roundg (xs.length - (k+1))
       case measure=>rw[GK.o];omega
       case rel=>exact⟨k+1,hlt,rfl,by go_num,T2,BJ⟩
   ·have d9:¬(k:Int) < (xs.length:Int):=by omega
    have R:Ll (decide (xs=ys)=true):=decide_eq_true (by
     have:=AL.o;rwa [MD (by omega),MD (by have:=HLN.o;omega)]at this)
    go_wp2_with fail
    go_ret;exact⟨by rw[R.o];rfl,BL.o⟩
 ·have q0:((xs.length:Int) != (ys.length:Int))=true:=by simp;omega
  have q00:((xs.length:Int) == (ys.length:Int))=false:=by rw[MO];omega
  have R:Ll (decide (xs=ys)=false):=decide_eq_false (fun e=>hl (by rw[e]));go_enter func10,ntmps10;go_wp2_with fail
  go_ret;exact⟨by rw[R.o];rfl,MK _ _⟩
theorem x8{l:List Lz}(hk:k < l.length)(h:bD (l.take k))(hl:∀ x,(l.take k).getLast?=some x->Op.bytesLess x l[k]=true):bD (l.take (k+1)):=by
 rw[List.take_succ_eq_append_getElem hk];unfold bD at h ⊢;rw[List.pairwise_append];refine⟨h,List.pairwise_singleton _ _,fun a ha b hb=>?_⟩;rw[List.mem_singleton]at hb;subst hb;rcases List.eq_nil_or_concat (l.take k) with e | ⟨r,z,e⟩
 ·rw[e]at ha;cases ha
 ·rw[List.concat_eq_append]at e;have hz:=hl z (by rw[e];simp);rw[e,List.mem_append,List.mem_singleton]at ha;rcases ha with ha | rfl
  ·rw[e,List.pairwise_append]at h;exact cP _ _ _ (h.2.2 a ha z (by simp)) hz
  ·exact hz
def gh (l:List Lz) (k:Nat):Lz:=(l.take k).getLast?.getD []
theorem nx{l:List Lz}(hk:k < l.length):gh l (k+1)=l[k]:=by
 unfold gh;rw[List.take_succ_eq_append_getElem hk,List.getLast?_concat];rfl
theorem wD{l:List Lz}(hk:k < l.length)(h:Op.bytesLess (gh l k) l[k]=true):∀ x,(l.take k).getLast?=some x->Op.bytesLess x l[k]=true:=fun x hx=>by
 unfold gh at h;rwa [hx]at h
theorem wb{l:List Lz}(hk:k < l.length)(hr:bD l)(hne:l[k]≠[]):Op.bytesLess (gh l k) l[k]=true:=by
 cases k with
 | zero=>
  unfold gh;rw[List.take_zero];cases h:l[0] with
  | nil=>exact absurd h hne
  | cons a b=>rfl
 | succ k=>
  rw[nx (by omega)];exact List.pairwise_iff_getElem.1 hr k (k+1) (by omega) hk (by omega)
def ML (l:List aL) (k:Nat):Prop:=(∀ o∈l.take k,ol o=true)/\bD ((l.map aL.name).take k)
def Tk (ps:List Lz) (j:Nat):Prop:=(∀ p∈ps.take j,oh p=true)/\bD (ps.take j)
theorem SF{ps:List Lz}{j:Nat}(hj:j < ps.length)(h:Tk ps j)(hp:oh ps[j]=true)(hl:Op.bytesLess (gh ps j) ps[j]=true):Tk ps (j+1):=by
 refine⟨fun p hp'=>?_,x8 hj h.2 (wD hj hl)⟩;rw[List.take_succ_eq_append_getElem hj,List.mem_append,List.mem_singleton]at hp';rcases hp' with hp' | rfl
 ·exact h.1 p hp'
 ·exact hp
theorem Vm{l:List aL}(hk:k < l.length)(h:ML l k)(ho:ol l[k]=true)(hl:Op.bytesLess (gh (l.map aL.name) k) l[k].name=true):ML l (k+1):=by
 refine⟨fun o ho'=>?_,x8 (by simpa using hk) h.2 (wD (by simpa using hk) (by simpa using hl))⟩;rw[List.take_succ_eq_append_getElem hk,List.mem_append,List.mem_singleton]at ho';rcases ho' with ho' | rfl
 ·exact h.1 o ho'
 ·exact ho
theorem Vy{l:List aL}(hk:k < l.length)(h:ol l[k]=true->Op.bytesLess (gh (l.map aL.name) k) l[k].name=false):TC l=false:=by
 cases e:TC l with
 | false=>rfl
 | true=>
  obtain⟨-,h2,h3⟩:=gz e;have ho:ol l[k]=true:=by unfold ol;rw[MJ];exact h2 _ (List.getElem_mem hk)
  have hne:l[k].name≠[]:=fun e9=>by have:=(h2 _ (List.getElem_mem hk)).1;rw[e9]at this;simp[bT]at this
  have:=wb (l:=l.map aL.name) (k:=k) (by simpa using hk) h3 (by simpa using hne);have h9:=h ho;simp only[List.getElem_map]at this;rw[h9]at this;cases this
theorem Tl{ps:List Lz}{j:Nat}(hj:j < ps.length)(h:oh ps[j]=true->Op.bytesLess (gh ps j) ps[j]=false):jj ps=false:=by
 cases e:jj ps with
 | false=>rfl
 | true=>
  obtain⟨-,h2,h3⟩:=mT e;have hg:=h2 _ (List.getElem_mem hj);have hne:ps[j]≠[]:=fun e9=>by rw[e9]at hg;simp[oh,aw,ax]at hg
  have:=wb hj h3 hne;rw[h hg]at this;cases this
theorem SU{p:Lz}:oh p=(decide ((ax p).2=0)&&!p.isEmpty):=by
 unfold oh;by_cases h:(ax p).2=0
 ·have hj:=(mO (p:=p) (b:=(ax p).1) (by rw[<-h])).2;rw[decide_eq_true h,Bool.true_and,Bool.true_and];cases p with
  | nil=>rfl
  | cons c r=>
   cases hn:aw (c :: r) with
   | nil=>unfold aw at hn;rw[hn]at hj;simp[aU]at hj
   | cons a b=>rfl
 ·rw[decide_eq_false h];rfl
theorem qa(w:LC)(okl:Nat->Prop)(l:List aL)(vl:Value)(hl:aB w okl l vl)(hP:∀ o∈l,∀ x∈o.paths,x.length<=140737488351232):Calls prog 16 #[vl] w fun e w'=>e=.returned (.bool (TC l))/\La w w':=by
 have HL:=aa hl;have HP:=aa hP;obtain⟨la,lc,rfl⟩:=hl.form;have ll:=hl.1;unfold maxLen at ll;clear hl hP;go_enter func16,ntmps16;go_wp2_with fail
 go_loopg [13,3] l.length (fun gk i lv wr=>∃ k:Nat,k<=l.length/\gk=l.length - k/\i=.int .i64 k/\lv=.string ⟨(gh (l.map aL.name) k).toArray⟩/\Ll (ML l k)/\Ll (La w wr))
 case atStart=>exact⟨0,Nat.zero_le _,rfl,rfl,rfl,⟨fun o h=>by simp at h,by simp[bD]⟩,MK _ _⟩
 case round=>
  obtain⟨k,hk,hgk,rfl,rfl,G,BL⟩:=hrel;obtain⟨wo,hwo⟩:∃ W,W=wr:=⟨_,rfl⟩
  rw[<-hwo]at BL ⊢;clear hwo;have GK:=aa hgk;clear hgk;by_cases hlt:k < l.length
  ·obtain⟨b,off,pa,pc,rfl,hc1,hc2,hn0,hp0,hst,hnl⟩:=HL.o.at hlt;have hn:=ah BL.o hn0;have hp:=ah BL.o hp0;have w2:(k:Int) < (l.length:Int):=by omega
   have w3:(0:Int)<=(k:Int):=by omega
   have LP:=aa (HP.o _ (List.getElem_mem hlt));have GN:=aa (fun h1 h2=>Vm hlt G.o h1 h2);have GB:=aa (Vy hlt);have LS:Ll (gh (l.map aL.name) (k+1)=l[k].name):=aa (by rw[nx (by simpa using hlt)];simp);obtain⟨o,ho⟩:∃ o,l[k]=o:=⟨_,rfl⟩
   rw[ho]at hn hp hst hnl LP GN GB LS;clear ho hn0 hp0;have ST:=aa hst;have pl:=hst.1;unfold maxLen at pl;clear hst;have OB:Ll (ol o=(bT o.name&&jj o.paths)):=aa rfl;obtain⟨nm,hnm⟩:∃ n,o.name=n:=⟨_,rfl⟩
   obtain⟨ps,hps⟩:∃ n,o.paths=n:=⟨_,rfl⟩
   rw[hnm]at hn GN GB LS OB hnl;rw[hps]at hp ST LP OB pl;clear hnm hps;obtain⟨jZ,hlst⟩:∃ x,gh (l.map aL.name) k=x:=⟨_,rfl⟩
   rw[hlst]at GN GB ⊢;clear hlst;obtain⟨W5,hW5⟩:∃ W,W=wo.alloc (.cells #[.string ⟨nm.toArray⟩,.slice pa ps.length pc] 47):=⟨_,rfl⟩
   have A5:Ll (La wo W5):=aa (by rw[hW5];exact ae _ _);have N5:Ll (W5.cell? ⟨wo.heap.size,0,none⟩=some (.string ⟨nm.toArray⟩)):=aa (by rw[hW5];exact(rl (MN _ _)).1);have P5:Ll (W5.cell? ⟨wo.heap.size,1,none⟩=some (.slice pa ps.length pc)):=aa (by rw[hW5];exact(rl (MN _ _)).2);have HW5:=aa hW5;clear hW5;have B5:=aa (ab BL.o A5.o);have NM:=aa (xe W5 nm hnl);go_upto_region 5 with fail
   rw[<-HW5.o];clear hn hp;have n5:=N5.o;cases hnb:bT nm with
   | false=>
    have R:Ll (TC l=false):=GB.o (fun h=>by rw[OB.o,hnb]at h;cases h);rw[hnb]at NM;clear hnb;go_wp2_with (go_at_call 14;refine NM.o.mono ?_;rintro e w6 ⟨rfl,hb⟩;have B6:=aa (ab B5.o hb);clear hb)
    go_ret;exact⟨by rw[R.o];rfl,B6.o⟩
   | true=>
    rw[hnb]at NM;have cs:Op.bytesLess nm jZ=true\/(Op.bytesLess nm jZ=false/\nm=jZ)\/(Op.bytesLess nm jZ=false/\(nm == jZ)=false/\ps=[])\/(Op.bytesLess nm jZ=false/\(nm == jZ)=false/\ps≠[]):=by
     cases h1:Op.bytesLess nm jZ with
     | true=>exact .inl rfl
     | false=>
      by_cases h2:nm=jZ
      ·exact .inr (.inl ⟨rfl,h2⟩)
      ·have h3:(nm == jZ)=false:=by rw[MO];exact h2
       by_cases h4:ps=[]
       ·exact .inr (.inr (.inl ⟨rfl,h3,h4⟩))
       ·exact .inr (.inr (.inr ⟨rfl,h3,h4⟩))
    rcases cs with h1 | ⟨h1,h2⟩ | ⟨h1,h2,h3⟩ | ⟨h1,h2,h3⟩
    ·have R:Ll (TC l=false):=GB.o (fun _=>pA h1);go_wp2_with (go_at_call 14;refine NM.o.mono ?_;rintro e w6 ⟨rfl,hb⟩;have n6:=ah hb n5;have B6:=aa (ab B5.o hb);clear hb)
     go_ret;exact⟨by rw[R.o];rfl,B6.o⟩
    ·have R:Ll (TC l=false):=GB.o (fun _=>by rw[h2];exact TE _);subst h2;go_wp2_with (go_at_call 14;refine NM.o.mono ?_;rintro e w6 ⟨rfl,hb⟩;have n6:=ah hb n5;have B6:=aa (ab B5.o hb);clear hb)
     go_ret;exact⟨by rw[R.o];rfl,B6.o⟩
    ·have R:Ll (TC l=false):=GB.o (fun h=>by rw[OB.o,h3]at h;simp[jj]at h);have P52:=P5;rw[h3]at P52;go_wp2_with (go_at_call 14;refine NM.o.mono ?_;rintro e w6 ⟨rfl,hb⟩;have n6:=ah hb n5;have p6:=ah hb P52.o;have B6:=aa (ab B5.o hb);clear hb)
     go_ret;exact⟨by rw[R.o];rfl,B6.o⟩
    ·have LT:Ll (Op.bytesLess jZ nm=true):=ez nm jZ h1 (by simpa using h2);have q0:((ps.length:Int) == 0)=false:=by rw[MO];have:=List.length_pos_iff.2 h3;omega
     have NE:=aa h3;have HNB:=aa hnb;clear h3 hnb;go_upto_region 9 with (go_at_call 14;refine NM.o.mono ?_;rintro e w6 ⟨rfl,hb⟩;have n6:=ah hb n5;have p6:=ah hb P5.o;have B6:=aa (ab B5.o hb);clear hb)
     clear q0 h1 h2;go_wp2_with fail
     clear n5 n6 p6;go_loopg [38,6] ps.length (fun gk i lv wj=>∃ j:Nat,j<=ps.length/\gk=ps.length - j/\i=.int .i64 j/\lv=.string ⟨(gh ps j).toArray⟩/\Ll (Tk ps j)/\Ll (La w wj))
     case atStart=>exact⟨0,Nat.zero_le _,rfl,rfl,rfl,⟨fun p h=>by simp at h,by simp[bD]⟩,B6⟩
     case round=>
      obtain⟨j,hj,hgj,rfl,rfl,GJ,BJ⟩:=hrel;have GG:=aa hgj;clear hgj;by_cases hjt:j < ps.length
      ·obtain⟨kb,ko,rfl,j1,j2,jk⟩:=gQ ST.o hjt;unfold maxLen at j2;have d0:=ah BJ.o jk;have j5:(j:Int) < (ps.length:Int):=by omega
       have j6:(0:Int)<=(j:Int):=by omega
       have PNX:=aa (fun h1 h2=>SF hjt GJ.o h1 h2);have PBD:=aa (Tl hjt);have PLN:=aa (LP.o _ (List.getElem_mem hjt));have PLS:=aa (nx hjt);obtain⟨p,hp⟩:∃ p,ps[j]=p:=⟨_,rfl⟩
       rw[hp]at d0 PNX PBD PLN PLS;clear hp jk;obtain⟨bef,hbef⟩:∃ x,gh ps j=x:=⟨_,rfl⟩
       rw[hbef]at PNX PBD ⊢;clear hbef;have SPL:=aa (we wr p PLN.o);obtain⟨ee,hee⟩:∃ e,(ax p).2=e:=⟨_,rfl⟩
       obtain⟨ns,hns⟩:∃ e,(ax p).1=e:=⟨_,rfl⟩
       have GP9:Ll (oh p=(decide (ee=0)&&!p.isEmpty)):=aa (by rw[<-hee];exact SU);have JO:Ll (ee=0->aU ns=p/\p.length<=2000):=fun h=>by
        have:=mO (p:=p) (b:=ns) (by rw[<-hns,<-h,<-hee]);exact⟨this.2,this.1⟩
       rw[hee,hns]at SPL;clear hee hns;have BAD:Ll (oh p=false->TC l=false):=fun h=>GB.o (fun h9=>by
        have h8:=PBD.o (fun h7=>by rw[h]at h7;cases h7);rw[OB.o,h8,Bool.and_false]at h9;cases h9)
       have BAD2:Ll (Op.bytesLess bef p=false->TC l=false):=fun h=>GB.o (fun h9=>by
        have h8:=PBD.o (fun _=>h);rw[OB.o,h8,Bool.and_false]at h9;cases h9)
       by_cases he:ee=0
       rotate_left
       ·have e1:(ee != 0)=true:=by simpa using he
        have e2:(ee == 0)=false:=by rw[MO];exact he
        have R:=aa (BAD.o (by rw[GP9.o,decide_eq_false he];rfl));clear he;go_wp2_with (go_at_call 44;refine SPL.o.mono ?_;rintro e w7 ⟨v7,rfl,hb,-⟩;have B7:=aa (ab BJ.o hb);clear hb)
        go_ret;exact⟨by rw[R.o];rfl,B7.o⟩
       subst he;by_cases hpe:p=[]
       ·have R:=aa (BAD.o (by rw[GP9.o,hpe];rfl));subst hpe;go_wp2_with (go_at_call 44;refine SPL.o.mono ?_;rintro e w7 ⟨v7,rfl,hb,-⟩;have B7:=aa (ab BJ.o hb);clear hb)
        go_ret;exact⟨by rw[R.o];rfl,B7.o⟩
       ·
        have e3:(p == [])=false:=by rw[MO];exact hpe
        have e4:p.isEmpty=false:=by cases p with | nil=>exact absurd rfl hpe | cons a b=>rfl
        have GT:Ll (oh p=true):=aa (by rw[GP9.o,e4];rfl);have JJ:=JO.o rfl;clear hpe;have cs:Op.bytesLess p bef=true\/(Op.bytesLess p bef=false/\p=bef)\/(Op.bytesLess p bef=false/\(p == bef)=false):=by
         cases h1:Op.bytesLess p bef with
         | true=>exact .inl rfl
         | false=>
          by_cases h2:p=bef
          ·exact .inr (.inl ⟨rfl,h2⟩)
          ·exact .inr (.inr ⟨rfl,by rw[MO];exact h2⟩)
        rcases cs with h1 | ⟨h1,h2⟩ | ⟨h1,h2⟩
        ·have R:=aa (BAD2.o (pA h1));clear JJ;go_wp2_with (go_at_call 44;refine SPL.o.mono ?_;rintro e w7 ⟨v7,rfl,hb,-⟩;have B7:=aa (ab BJ.o hb);clear hb)
         go_ret;exact⟨by rw[R.o];rfl,B7.o⟩
        ·have R:=aa (BAD2.o (by rw[<-h2];exact TE _));clear JJ;subst h2;go_wp2_with (go_at_call 44;refine SPL.o.mono ?_;rintro e w7 ⟨v7,rfl,hb,-⟩;have B7:=aa (ab BJ.o hb);clear hb)
         go_ret;exact⟨by rw[R.o];rfl,B7.o⟩
        ·have NX:=aa (PNX.o GT.o (ez p bef h1 (by simpa using h2)));have HJJ:=aa JJ;clear JJ;go_wp2_with (first | (go_at_call 44;refine SPL.o.mono ?_;rintro e w7 ⟨v7,rfl,hb,hs⟩;obtain⟨na,nc,rfl⟩:=hs.form;have B7:=aa (ab BJ.o hb);have NS7:=aa hs;clear hb hs) | (go_at_call 45;refine Lk (BO _ _ ns _ (by exact NS7.o) (by rw[HJJ.o.1];have:=HJJ.o.2;omega)) fun w8 hb=>?_;rw[HJJ.o.1];unfold aR;have B8:=aa (ab B7.o hb);clear hb))
         go_roundg (ps.length - (j+1))
         case measure=>rw[GG.o];omega
         case rel=>exact⟨j+1,hjt,rfl,by go_num,by rw[PLS.o],NX,B8⟩
      ·have d9:¬(j:Int) < (ps.length:Int):=by omega
       have GP:Ll (jj ps=true):=aa (by
        have h:=GJ.o;unfold Tk at h;rw[MD (by omega)]at h;exact EY NE.o h.1 h.2)
       have NX:=aa (GN.o (by rw[OB.o,HNB.o,GP.o];rfl) LT.o);have e7:=LS.o;go_wp2_with fail
       go_roundg (l.length - (k+1))
       case measure=>rw[GK.o];omega
       case rel=>exact⟨k+1,hlt,rfl,by go_num,by rw[e7],NX,BJ⟩
  ·have d9:¬(k:Int) < (l.length:Int):=by omega
   have h:=G.o;unfold ML at h;rw[MD (by omega),MD (by simp;omega)]at h;have HR:Ll (TC l=decide (l.length<=6)):=aa (by
    unfold TC;rw[List.all_eq_true.2 h.1,(gZ _).2 h.2,Bool.and_true,Bool.and_true])
   clear h;by_cases h6:l.length<=6
   ·have e6:(l.length:Int)<=6:=by omega
    have R:Ll (TC l=true):=aa (by rw[HR.o];exact decide_eq_true h6);clear h6;go_wp2_with fail
    go_ret;exact⟨by rw[R.o];rfl,BL.o⟩
   ·have e6:¬(l.length:Int)<=6:=by omega
    have R:Ll (TC l=false):=aa (by rw[HR.o];exact decide_eq_false h6);clear h6;go_wp2_with fail
    go_ret;exact⟨by rw[R.o];rfl,BL.o⟩
end Go.Proofs.YtbdlfclnkpofaaaGreatDoor
