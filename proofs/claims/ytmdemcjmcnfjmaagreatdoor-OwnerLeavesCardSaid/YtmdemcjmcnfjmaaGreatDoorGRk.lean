/- What value of json's reader does: what valS says. -/
import Derived.Test.YtmdemcjmcnfjmaaGreatDoorGRg
import Derived.Test.YtmdemcjmcnfjmaaGreatDoorGShq
import Derived.Test.YtmdemcjmcnfjmaaGreatDoorGOq
import Derived.Deep.RegionLaw
import Derived.Deep.DeepCutAuto
import Derived.Deep.CutBlock
set_option linter.unusedSimpArgs false
set_option linter.unusedVariables false
namespace Go.Proofs.YtmdemcjmcnfjmaaGreatDoor
open Go.RowKit
def itemsS (g:List UInt8->Option (V × List UInt8)):Nat->List V->List UInt8->Option (V × List UInt8)
 | 0,_,_=>none
 | k+1,acc,l=>
  match markS 44 l with
  | some r=>(g r).bind fun p=>itemsS g k (acc++[p.1]) p.2
  | none=>(markS 93 (l.dropWhile isSp)).map fun r=>(⟨4,0,[],[],acc⟩,r)
def listS (g:List UInt8->Option (V × List UInt8)) (l:List UInt8):Option (V × List UInt8):=
 (markS 91 l).bind fun l=>
  match markS 93 l with
  | some r=>some (⟨4,0,[],[],[]⟩,r)
  | none=>(g (l.dropWhile isSp)).bind fun p=>itemsS g (p.2.length+1) [p.1] p.2
def memS (g:List UInt8->Option (V × List UInt8)) (v:V) (l:List UInt8):Option (V × List UInt8):=
 (quotS l).bind fun q=>(markS 58 q.2).bind fun l=>(g l).bind fun p=>if (memV v q.1).isSome then none else some (withV v q.1 p.1,p.2)
def membsS (g:List UInt8->Option (V × List UInt8)):Nat->V->List UInt8->Option (V × List UInt8)
 | 0,_,_=>none
 | k+1,v,l=>
  match markS 44 l with
  | some r=>(memS g v r).bind fun p=>membsS g k p.1 p.2
  | none=>(markS 125 (l.dropWhile isSp)).map fun r=>(v,r)
def objS (g:List UInt8->Option (V × List UInt8)) (l:List UInt8):Option (V × List UInt8):=
 (markS 123 l).bind fun l=>
  match markS 125 l with
  | some r=>some (⟨5,0,[],[],[]⟩,r)
  | none=>(memS g ⟨5,0,[],[],[]⟩ (l.dropWhile isSp)).bind fun p=>membsS g (p.2.length+1) p.1 p.2
def oneS (g:List UInt8->Option (V × List UInt8)) (l:List UInt8):Option (V × List UInt8):=
 if hd0 l=110 then (wordS [110,117,108,108] l).map fun r=>(leafV 0 0 [],r)
 else if hd0 l=102 then (wordS [102,97,108,115,101] l).map fun r=>(leafV 1 0 [],r)
 else if hd0 l=116 then (wordS [116,114,117,101] l).map fun r=>(leafV 1 1 [],r)
 else if hd0 l=34 then (quotS l).map fun p=>(leafV 3 0 p.1,p.2)
 else if hd0 l=91 then listS g l
 else if hd0 l=123 then objS g l
 else (numS l).map fun p=>(leafV 2 p.1 [],p.2)
def valS:Nat->List UInt8->Option (V × List UInt8)
 | 0,_=>none
 | f+1,l=>oneS (valS f) (l.dropWhile isSp)
def Less (g:List UInt8->Option (V × List UInt8)):Prop:=∀ l p,g l=some p->p.2.length < l.length
theorem itemsS_len {g:List UInt8->Option (V × List UInt8)} (hg:Less g) (k:Nat):∀ (acc:List V) (l:List UInt8) (p:V × List UInt8),itemsS g k acc l=some p->p.2.length < l.length:=by
 induction k with
 | zero=>intro acc l p h;cases h
 | succ k ih=>
  intro acc l p h
  simp only[itemsS]at h
  split at h
  ·rename_i r hr
   simp only[Option.bind_eq_some_iff]at h
   obtain⟨q,h1,h2⟩:=h
   have:=hg _ _ h1
   have:=ih _ _ _ h2
   have:=markS_len hr
   omega
  ·simp only[Option.map_eq_some_iff]at h
   obtain⟨r,h1,rfl⟩:=h
   have:=markS_len h1
   have:=dropSp_len l
   simp only;omega
theorem listS_len {g:List UInt8->Option (V × List UInt8)} (hg:Less g):Less (listS g):=by
 intro l p h
 simp only[listS,Option.bind_eq_some_iff]at h
 obtain⟨r,h1,h2⟩:=h
 have:=markS_len h1
 split at h2
 ·rename_i r2 hr2
  cases h2
  have:=markS_len hr2
  simp only;omega
 ·simp only[Option.bind_eq_some_iff]at h2
  obtain⟨q,h3,h4⟩:=h2
  have:=hg _ _ h3
  have:=itemsS_len hg _ _ _ _ h4
  have:=dropSp_len r
  omega
theorem memS_len {g:List UInt8->Option (V × List UInt8)} (hg:Less g) (v:V):Less (memS g v):=by
 intro l p h
 simp only[memS,Option.bind_eq_some_iff]at h
 obtain⟨q,h1,r,h2,y,h3,h4⟩:=h
 split at h4
 ·cases h4
 ·cases h4
  have:=quotS_len h1
  have:=markS_len h2
  have:=hg _ _ h3
  simp only;omega
theorem membsS_len {g:List UInt8->Option (V × List UInt8)} (hg:Less g) (k:Nat):∀ (v:V) (l:List UInt8) (p:V × List UInt8),membsS g k v l=some p->p.2.length < l.length:=by
 induction k with
 | zero=>intro acc l p h;cases h
 | succ k ih=>
  intro acc l p h
  simp only[membsS]at h
  split at h
  ·rename_i r hr
   simp only[Option.bind_eq_some_iff]at h
   obtain⟨q,h1,h2⟩:=h
   have:=memS_len hg _ _ _ h1
   have:=ih _ _ _ h2
   have:=markS_len hr
   omega
  ·simp only[Option.map_eq_some_iff]at h
   obtain⟨r,h1,rfl⟩:=h
   have:=markS_len h1
   have:=dropSp_len l
   simp only;omega
theorem objS_len {g:List UInt8->Option (V × List UInt8)} (hg:Less g):Less (objS g):=by
 intro l p h
 simp only[objS,Option.bind_eq_some_iff]at h
 obtain⟨r,h1,h2⟩:=h
 have:=markS_len h1
 split at h2
 ·rename_i r2 hr2
  cases h2
  have:=markS_len hr2
  simp only;omega
 ·simp only[Option.bind_eq_some_iff]at h2
  obtain⟨q,h3,h4⟩:=h2
  have:=memS_len hg _ _ _ h3
  have:=membsS_len hg _ _ _ _ h4
  have:=dropSp_len r
  omega
theorem wordS_len {wd l r:List UInt8} (hw:0 < wd.length) (h:wordS wd l=some r):r.length < l.length:=by
 unfold wordS at h
 split at h
 ·rename_i hp
  cases h
  have:=List.IsPrefix.length_le (List.isPrefixOf_iff_prefix.1 hp)
  rw[List.length_drop];omega
 ·cases h
theorem numS_len {l:List UInt8} {p:Int × List UInt8} (h:numS l=some p):p.2.length < l.length:=by
 unfold numS at h
 split at h
 ·rename_i v hv
  split at h
  ·rename_i he
   cases h
   have e:l=l.takeWhile isNum++l.dropWhile isNum:=(List.takeWhile_append_dropWhile).symm
   have e2:=congrArg List.length e
   rw[List.length_append]at e2
   have:0 < (l.takeWhile isNum).length:=by
    cases ht:l.takeWhile isNum with
    | nil=>rw[ht]at hv;exact absurd hv (atoi_nil v)
    | cons c r=>simp
   simp only;omega
  ·cases h
 ·cases h
theorem oneS_len {g:List UInt8->Option (V × List UInt8)} (hg:Less g):Less (oneS g):=by
 intro l p h
 unfold oneS at h
 split at h
 ·simp only[Option.map_eq_some_iff]at h;obtain⟨r,h1,rfl⟩:=h;exact wordS_len (by simp) h1
 split at h
 ·simp only[Option.map_eq_some_iff]at h;obtain⟨r,h1,rfl⟩:=h;exact wordS_len (by simp) h1
 split at h
 ·simp only[Option.map_eq_some_iff]at h;obtain⟨r,h1,rfl⟩:=h;exact wordS_len (by simp) h1
 split at h
 ·simp only[Option.map_eq_some_iff]at h;obtain⟨r,h1,rfl⟩:=h;exact quotS_len h1
 split at h
 ·exact listS_len hg _ _ h
 split at h
 ·exact objS_len hg _ _ h
 ·simp only[Option.map_eq_some_iff]at h;obtain⟨r,h1,rfl⟩:=h;exact numS_len h1
theorem valS_len (f:Nat):Less (valS f):=by
 induction f with
 | zero=>intro l p h;cases h
 | succ f ih=>
  intro l p h
  have:=oneS_len ih _ _ h
  have:=dropSp_len l
  omega
end Go.Proofs.YtmdemcjmcnfjmaaGreatDoor
namespace Go.Proofs.YtmdemcjmcnfjmaaGreatDoor
open Go.RowKit
def ValC (f:Nat):Prop:=∀ (w:World) (b:Nat) (s:ByteArray) (st:Option (List UInt8)),RdSt w b s st->Glob w->6<=b->(st.getD []).length < f ->
 Calls Tryz.prog 63 #[.pointer (some ⟨b,0,none⟩)] w fun e w'=>∃ (t:V) (st':Option (List UInt8)) (a7 a8:Option Addr) (c7 c8:Nat),
  e=.returned (.agg #[.int .i64 t.kind,.int .i64 t.n,.string ⟨t.s.toArray⟩,.slice a7 t.keys.length c7,.slice a8 t.l.length c8]) /\
  VIs w' (fun k=>w.heap.size<=k) f t (.agg #[.int .i64 t.kind,.int .i64 t.n,.string ⟨t.s.toArray⟩,.slice a7 t.keys.length c7,.slice a8 t.l.length c8])/\st.bind (valS f)=st'.map (fun l=>(t,l))/\RdSt w' b s st'/\w.grownBy w' (some b)
theorem box_setL {w:World} {g:Nat} {c0 c1 c2 c3 c4:Value} (h:BoxIs w g c0 c1 c2 c3 c4) (v:Value):BoxIs (w.setCell ⟨g,4,none⟩ v) g c0 c1 c2 c3 v:=heap_set h 4 v
theorem step_appendV {w:World} {ops:Array Oper} {o:Oper} {a:Act} {K:Act->World->Prop} {Q:Exit->Act->World->Prop} {E:Prop} (hgd:o.guard=none) (s x:Operand)
 (ho:o.op=.call { callee:=.builtin .append,args:=#[s,x],argTypes:=#[23,23] }) (B:Nat) (v:Value) (n:Nat) (cs:List Value) (k m:Int) (ss:ByteArray) (a7 a8:Option Addr) (l7 c7 l8 c8:Nat) (hs:a.eval s=v)
 (hx:a.eval x=.slice (some ⟨w.heap.size,0,none⟩) 1 1) (hown:w.ownsRow B 25 5 v n cs) (hB:B<=w.heap.size) (hl:n<=1000000)
 (hK:∀ g cap w',w'.ownsRow B 25 5 (.slice (some ⟨g,0,none⟩) (n+1) cap) (n+1) (cs++[.int .i64 k,.int .i64 m,.string ss,.slice a7 l7 c7,.slice a8 l8 c8])->(w.alloc (.cells #[.int .i64 k,.int .i64 m,.string ss,.slice a7 l7 c7,.slice a8 l8 c8] 25)).grownBy w' v.ownBlock->(v.ownBlock=some g\/w.heap.size < g)->K (a.put o.dst (.slice (some ⟨g,0,none⟩) (n+1) cap)) w') :
 if Region.wanted o (yielded ops a.tmps)=true then Oper.wp Tryz.prog o a (w.alloc (.cells #[.int .i64 k,.int .i64 m,.string ss,.slice a7 l7 c7,.slice a8 l8 c8] 25)) K Q else E:=by
 obtain⟨i0,hi,hz0,hz1,hz2⟩:=info_parts info25
 have hb:BoxIs (w.alloc (.cells #[.int .i64 k,.int .i64 m,.string ss,.slice a7 l7 c7,.slice a8 l8 c8] 25)) w.heap.size (.int .i64 k) (.int .i64 m) (.string ss) (.slice a7 l7 c7) (.slice a8 l8 c8):=heap_alloc_new w _
 obtain⟨h1,h2,h3,h4⟩:=slbox hb (one5 _ _ _ _ _ _ _ _ _)
 refine step_append_lies _ hgd s x 23 ho B 25 i0 _ 5 80 Tryz.underlying23 hi hz0 hz1 hz2 rfl (by decide) v n cs hs (hown.alloc _) ⟨w.heap.size,0,none⟩ 1 1 [.int .i64 k,.int .i64 m,.string ss,.slice a7 l7 c7,.slice a8 l8 c8] hx rfl ?_ h3 (by decide) (by unfold maxLen;omega) (by omega) (by simp;omega) (w.heap.size+1) (by simp) ?_
 ·rcases h4 with⟨e,_⟩ | ⟨ad,c,e,hc⟩
  ·simp at e
  ·simp only[Value.slice.injEq,Option.some.injEq]at e
   obtain⟨rfl,-,-⟩:=e
   exact hc
 ·intro g cap w' ho' hg' hor _
  exact hK g cap w' ho' hg' (hor.imp id fun e=>by omega)
theorem listS_next {g:List UInt8->Option (V × List UInt8)} {st:Option (List UInt8)} :
 st.bind (listS g)=(st.bind (markS 91)).bind fun l=>match markS 93 l with | some r=>some (⟨4,0,[],[],[]⟩,r) | none=>(g (l.dropWhile isSp)).bind fun p=>itemsS g (p.2.length+1) [p.1] p.2:=by
 cases st <;> rfl
theorem itemsS_fuel {g:List UInt8->Option (V × List UInt8)} (hg:Less g) (n:Nat):∀ (m:Nat) (acc:List V) (l:List UInt8),l.length < n->l.length < m->itemsS g n acc l=itemsS g m acc l:=by
 induction n with
 | zero=>intro m acc l h;omega
 | succ n ih=>
  intro m acc l h1 h2
  cases m with
  | zero=>omega
  | succ m=>
   simp only[itemsS]
   split
   ·rename_i r hr
    have:=markS_len hr
    cases hgr:g r with
    | none=>rfl
    | some p=>
     have:=hg _ _ hgr
     exact ih m _ _ (by omega) (by omega)
   ·rfl
def itemsT (g:List UInt8->Option (V × List UInt8)) (acc:List V) (st:Option (List UInt8)):Option (V × List UInt8):=st.bind fun l=>itemsS g (l.length+1) acc l
theorem items_step {g:List UInt8->Option (V × List UInt8)} (hg:Less g) {acc:List V} {st1 st3:Option (List UInt8)} {t0:V} (h2:(st1.bind (markS 44)).isSome=true) (h3:(st1.bind (markS 44)).bind g=st3.map (fun l=>(t0,l))) :
 itemsT g acc st1=itemsT g (acc++[t0]) st3/\togo st3 < togo st1:=by
 cases st1 with
 | none=>cases h2
 | some l=>
  cases hm:markS 44 l with
  | none=>simp[hm]at h2
  | some r=>
   have hr:=markS_len hm
   simp only[Option.bind_some,hm]at h3
   have e:itemsT g acc (some l)=(g r).bind fun p=>itemsS g l.length (acc++[p.1]) p.2:=by
    show itemsS g (l.length+1) acc l=_
    simp only[itemsS,hm]
   rw[e,h3]
   cases st3 with
   | none=>exact⟨rfl,by simp[togo]⟩
   | some l3=>
    have hl:=hg _ _ h3
    simp only at hl
    exact⟨itemsS_fuel hg _ _ _ _ (by simp only;omega) (by simp only;omega),by simp only[togo];omega⟩
theorem items_end {g:List UInt8->Option (V × List UInt8)} {acc:List V} {st1:Option (List UInt8)} (h2:(st1.bind (markS 44)).isSome=false) :
 itemsT g acc st1=((st1.map (List.dropWhile isSp)).bind (markS 93)).map fun r=>(⟨4,0,[],[],acc⟩,r):=by
 cases st1 with
 | none=>rfl
 | some l=>
  cases hm:markS 44 l with
  | some r=>simp[hm]at h2
  | none=>
   show itemsS g (l.length+1) acc l=_
   simp only[itemsS,hm];rfl
theorem list_first {g:List UInt8->Option (V × List UInt8)} {st st3:Option (List UInt8)} {t0:V} (h2:((st.bind (markS 91)).bind (markS 93)).isSome=false)
 (h3:((st.bind (markS 91)).map (List.dropWhile isSp)).bind g=st3.map (fun l=>(t0,l))):st.bind (listS g)=itemsT g [t0] st3:=by
 rw[listS_next]
 cases hs:st.bind (markS 91) with
 | none=>
  rw[hs]at h3
  cases st3 with
  | none=>rfl
  | some l=>cases h3
 | some l=>
  rw[hs]at h2 h3
  simp only[Option.bind_some]at h2 ⊢
  have hm:markS 93 l=none:=by cases hm:markS 93 l with
   | none=>rfl
   | some r=>simp[hm]at h2
  rw[hm]
  have h3':g (l.dropWhile isSp)=st3.map (fun l=>(t0,l)):=h3
  simp only[h3']
  cases st3 <;> rfl
def ListI (f:Nat) (w:World) (b:Nat) (s:ByteArray) (T:Option (V × List UInt8)) (k:Nat) (wr:World):Prop:=
 ∃ (acc:List V) (st1:Option (List UInt8)) (g cap:Nat) (cs:List Value),k=togo st1/\itemsT (valS f) acc st1=T/\acc.length+k<=3000/\(st1.getD []).length < f /\
  BoxIs wr w.heap.size (.int .i64 0) (.int .i64 0) (.string ⟨#[]⟩) (.slice none 0 0) (.slice none 0 0) /\
  BoxIs wr (w.heap.size+1) (.int .i64 4) (.int .i64 0) (.string ⟨#[]⟩) (.slice none 0 0) (.slice (some ⟨g,0,none⟩) acc.length cap) /\
  wr.ownsRow (w.heap.size+2) 25 5 (.slice (some ⟨g,0,none⟩) acc.length cap) acc.length cs/\RowV (VIs wr (fun k=>w.heap.size+2<=k/\k≠g) f) acc cs/\RdSt wr b s st1/\Glob wr/\w.grownBy wr (some b)
theorem listI_mk {f:Nat} {w w3 w4:World} {b:Nat} {s:ByteArray} {T:Option (V × List UInt8)} {t0:V} {st3:Option (List UInt8)} {acc:List V} {cs:List Value} {lv:Value} {a7 a8:Option Addr} {c7 c8 g cap g0:Nat} (hbl:b < w.heap.size)
 (bxC:BoxIs w3 w.heap.size (.int .i64 0) (.int .i64 0) (.string ⟨#[]⟩) (.slice none 0 0) (.slice none 0 0)) (bxA:BoxIs w3 (w.heap.size+1) (.int .i64 4) (.int .i64 0) (.string ⟨#[]⟩) (.slice none 0 0) lv)
 (hown3:w3.ownsRow (w.heap.size+2) 25 5 lv acc.length cs) (hlv:lv.ownBlock=none\/lv.ownBlock=some g0) (hrow3:RowV (VIs w3 (fun k=>w.heap.size+2<=k/\k≠g0) f) acc cs)
 (hv:VIs w3 (fun k=>w.heap.size+2<=k/\k≠g0) f t0 (.agg #[.int .i64 t0.kind,.int .i64 t0.n,.string ⟨t0.s.toArray⟩,.slice a7 t0.keys.length c7,.slice a8 t0.l.length c8])) (hT:itemsT (valS f) (acc++[t0]) st3=T) (hl:(st3.getD []).length < f) (hc:acc.length+1+togo st3<=3000) (hr:RdSt w3 b s st3) (hG:Glob w3) (hb4:6<=b) (hg:w.grownBy w3 (some b))
 (ho4:w4.ownsRow (w.heap.size+2) 25 5 (.slice (some ⟨g,0,none⟩) (acc.length+1) cap) (acc.length+1) (cs++[.int .i64 t0.kind,.int .i64 t0.n,.string ⟨t0.s.toArray⟩,.slice a7 t0.keys.length c7,.slice a8 t0.l.length c8])) (hg4:(w3.alloc (.cells #[.int .i64 t0.kind,.int .i64 t0.n,.string ⟨t0.s.toArray⟩,.slice a7 t0.keys.length c7,.slice a8 t0.l.length c8] 25)).grownBy w4 lv.ownBlock) (hgg:lv.ownBlock=some g\/w3.heap.size < g) :
 ListI f w b s T (togo st3) (w4.setCell ⟨w.heap.size+1,4,none⟩ (.slice (some ⟨g,0,none⟩) (acc.length+1) cap)):=by
 have hlow:∀ k,lv.ownBlock=some k->w.heap.size+2<=k:=fun k hk=>(hown3.lt k hk).1
 have g34:w3.grownBy w4 lv.ownBlock:=gb_trans (World.grownBy_alloc w3 _ _) hg4
 have g5:w4.grownBy (w4.setCell ⟨w.heap.size+1,4,none⟩ (.slice (some ⟨g,0,none⟩) (acc.length+1) cap)) (some (w.heap.size+1)):=gb_set (gb_refl _ _) _ _
 have ne:∀ k,k < w.heap.size+2->some k≠lv.ownBlock:=fun k hk e=>by have:=hlow k e.symm;omega
 have conv:∀ x v,VIs w3 (fun k=>w.heap.size+2<=k/\k≠g0) f x v->VIs (w4.setCell ⟨w.heap.size+1,4,none⟩ (.slice (some ⟨g,0,none⟩) (acc.length+1) cap)) (fun k=>w.heap.size+2<=k/\k≠g) f x v:=by
  intro x v h
  have h1:=(h.below.grown g34 (fun k hk e=>by rcases hlv with h0 | h0 <;> rw[h0]at e <;> simp at e;exact hk.1.2 e)).grown g5 (fun k hk e=>by simp at e;omega)
  refine h1.weak fun k hk=>⟨hk.1.1,fun e=>?_⟩
  subst e
  rcases hgg with h0 | h0
  ·rcases hlv with h2 | h2
   ·rw[h2]at h0;cases h0
   ·rw[h2]at h0;cases h0;exact hk.1.2 rfl
  ·omega
 refine⟨acc++[t0],st3,g,cap,cs++[.int .i64 t0.kind,.int .i64 t0.n,.string ⟨t0.s.toArray⟩,.slice a7 t0.keys.length c7,.slice a8 t0.l.length c8],rfl,hT,by simp only[List.length_append,List.length_cons,List.length_nil];omega,hl,?_,?_,?_,?_,?_,?_,?_⟩
 ·exact(bxC.grown g34 (ne _ (by omega))).grown g5 (by simp)
 ·have:=box_setL (bxA.grown g34 (ne _ (by omega))) (.slice (some ⟨g,0,none⟩) (acc.length+1) cap)
  simpa using this
 ·have:=own_kept' ho4 g5 (by omega)
  simpa using this
 ·have rx:RowV (VIs (w4.setCell ⟨w.heap.size+1,4,none⟩ (.slice (some ⟨g,0,none⟩) (acc.length+1) cap)) (fun k=>w.heap.size+2<=k/\k≠g) f) [t0] [.int .i64 t0.kind,.int .i64 t0.n,.string ⟨t0.s.toArray⟩,.slice a7 t0.keys.length c7,.slice a8 t0.l.length c8]:=⟨_,_,_,_,_,[],rfl,conv _ _ hv,rfl⟩
  exact rx.append (hrow3.imp conv)
 ·exact(hr.grown g34 (ne _ (by omega))).grown g5 (by simp;omega)
 ·exact(hG.grown g34 (fun k hk=>by have:=hlow k hk;have:=hG.size;omega)).grown g5 (fun k hk=>by cases hk;have:=hG.size;omega)
 ·exact gb_setA (gb_own hg g34 (fun k hk=>by have:=hlow k hk;omega)) (by omega) _ _
set_option maxRecDepth 100000 in
set_option maxHeartbeats 4000000 in
theorem list_st (f:Nat) (ih:ValC f) (w:World) (b:Nat) (s:ByteArray) (st:Option (List UInt8)) (h:RdSt w b s st) (hG:Glob w) (hb4:6<=b) (hf0:0 < f) (hlen:(st.getD []).length < f+1) :
 Calls Tryz.prog 95 #[.pointer (some ⟨b,0,none⟩)] w fun e w'=>∃ (t:V) (st':Option (List UInt8)) (a7 a8:Option Addr) (c7 c8:Nat),
  e=.returned (.agg #[.int .i64 t.kind,.int .i64 t.n,.string ⟨t.s.toArray⟩,.slice a7 t.keys.length c7,.slice a8 t.l.length c8]) /\
  VIs w' (fun k=>w.heap.size<=k) (f+1) t (.agg #[.int .i64 t.kind,.int .i64 t.n,.string ⟨t.s.toArray⟩,.slice a7 t.keys.length c7,.slice a8 t.l.length c8])/\st.bind (listS (valS f))=st'.map (fun l=>(t,l))/\RdSt w' b s st'/\w.grownBy w' (some b):=by
 have H:=hidI h
 have HG:=hidI hG
 have IH:=hidI ih
 have hbl:=h.lt
 clear h hG ih
 go_enter Tryz.func95,Tryz.ntmps95
 go_wp2_with fail
 refine(need_st _ b s st 91 91 rfl (by decide) (by exact H.out.grown (gb_alloc (World.grownBy_alloc w _ none) _) (by simp))).mono ?_
 rintro e w1 ⟨rfl,h1,hg1⟩
 have bx1:Hid (BoxIs w1 w.heap.size (.int .i64 0) (.int .i64 0) (.string ⟨#[]⟩) (.slice none 0 0) (.slice none 0 0)/\BoxIs w1 (w.heap.size+1) (.int .i64 4) (.int .i64 0) (.string ⟨#[]⟩) (.slice none 0 0) (.slice none 0 0)):=
  ⟨BoxIs.grown (h2a w _ _) hg1 (by simp;omega),BoxIs.grown (h2b w _ _) hg1 (by simp;omega)⟩
 have G1:Hid (RdSt w1 b s (st.bind (markS 91))/\w.grownBy w1 (some b)):=⟨h1,gb_trans (gb_alloc (gb_alloc (gb_refl _ _) _) _) hg1⟩
 clear h1 hg1
 go_wp2_with fail
 refine(mark_st _ b s (st.bind (markS 91)) 93 93 rfl (by decide) (by exact G1.out.1)).mono ?_
 rintro e w2 ⟨rfl,h2,hg2⟩
 have bx2:Hid (BoxIs w2 w.heap.size (.int .i64 0) (.int .i64 0) (.string ⟨#[]⟩) (.slice none 0 0) (.slice none 0 0)/\BoxIs w2 (w.heap.size+1) (.int .i64 4) (.int .i64 0) (.string ⟨#[]⟩) (.slice none 0 0) (.slice none 0 0)):=
  ⟨bx1.out.1.grown hg2 (by simp;omega),bx1.out.2.grown hg2 (by simp;omega)⟩
 have G2:Hid (RdSt w2 b s (if ((st.bind (markS 91)).bind (markS 93)).isSome then (st.bind (markS 91)).bind (markS 93) else (st.bind (markS 91)).map (List.dropWhile isSp))/\w.grownBy w2 (some b)):=⟨h2,gb_trans G1.out.2 hg2⟩
 obtain⟨x0,x1,x2,x3,x4,y0,y1,y2,y3,y4⟩:=bx2.out.1.c
 obtain⟨p0,p1,p2,p3,p4,-,-,-,p9,p10⟩:=bx2.out.2.c
 clear h2 hg2 bx1 G1
 cases hm:((st.bind (markS 91)).bind (markS 93)).isSome with
 | true=>
  have HM:=hidI hm
  obtain⟨z0,z1,z2,z3,z4,-⟩:=(bx2.out.1.set (.int .i64 4) (.int .i64 0) (.string ⟨#[]⟩) (.slice none 0 0) (.slice none 0 0)).c
  have Z:Hid (_/\_/\_/\_/\_):=⟨z0,z1,z2,z3,z4⟩
  clear z0 z1 z2 z3 z4 hm
  go_wp2_with fail
  obtain⟨z0,z1,z2,z3,z4⟩:=Z.out
  refine bodyPost_ret (v:=leaf 4 0 []) ?_ rfl ?_
  ·simp only[set5,str]at z0 z1 z2 z3 z4
   simp[results,Tryz.results95,go_sem,z0,z1,z2,z3,z4,leaf,str]
  ·refine⟨leafV 4 0 [],(st.bind (markS 91)).bind (markS 93),none,none,0,0,rfl,leaf_is _ _ f _ _ _ (by unfold I64;omega) (by unfold I64;omega) (by simp),?_,?_,?_⟩
   ·rw[listS_next]
    cases hs:st.bind (markS 91) with
    | none=>rw[hs]at HM;exact absurd HM.out (by simp)
    | some l=>
     rw[hs]at HM
     cases h9:markS 93 l with
     | none=>simp[h9]at HM;exact absurd HM.out (by simp)
     | some r=>simp only[Option.bind_some,h9];rfl
   ·have:=G2.out.1
    rw[if_pos HM.out]at this
    exact this.of_heap ((set5_gb w2 w.heap.size _ _ _ _ _).block b this.lt (by simp;omega))
   ·exact gb_own G2.out.2 (set5_gb w2 w.heap.size _ _ _ _ _) (by intro k hk;cases hk;exact Nat.le_refl _)
 | false=>
  have HM:=hidI hm
  have G3:Hid (RdSt w2 b s ((st.bind (markS 91)).map (List.dropWhile isSp))/\w.grownBy w2 (some b)/\Glob w2):=by
   have:=G2.out.1
   rw[if_neg (by rw[HM.out];simp)]at this
   exact⟨this,G2.out.2,HG.out.grown G2.out.2 (by intro k hk;cases hk;exact hb4)⟩
  clear hm G2
  have call5:Hid (∀ W,W.heap=w2.heap->W.os=w2.os->W.tape=w2.tape->W.output=w2.output->Calls Tryz.prog 63 #[.pointer (some ⟨b,0,none⟩)] W fun e w'=>∃ (t:V) (st':Option (List UInt8)) (a7 a8:Option Addr) (c7 c8:Nat),
   e=.returned (.agg #[.int .i64 t.kind,.int .i64 t.n,.string ⟨t.s.toArray⟩,.slice a7 t.keys.length c7,.slice a8 t.l.length c8])/\VIs w' (fun k=>w2.heap.size<=k) f t (.agg #[.int .i64 t.kind,.int .i64 t.n,.string ⟨t.s.toArray⟩,.slice a7 t.keys.length c7,.slice a8 t.l.length c8])/\st.bind (listS (valS f))=itemsT (valS f) [t] st'/\(st'.getD []).length < f/\1+togo st'<=3000/\RdSt w' b s st'/\w2.grownBy w' (some b)):=by
   intro W e1 e2 e3 e4
   have hl2:(((st.bind (markS 91)).map (List.dropWhile isSp)).getD []).length < f:=by
    cases hs:st.bind (markS 91) with
    | none=>exact hf0
    | some l=>
     cases st with
     | none=>cases hs
     | some l0=>
      have:=markS_len (show markS 91 l0=some l from hs)
      have:=dropSp_len l
      simp only[Option.getD_some,Option.map_some]at hlen ⊢
      omega
   have hgW:w2.grownBy W (some b):=⟨e2,e3,e4,by rw[e1];exact Nat.le_refl _,fun k _ _=>by rw[e1]⟩
   refine(IH.out W b s _ (G3.out.1.of_heap (by rw[e1])) (G3.out.2.2.same e1) hb4 hl2).mono ?_
   rintro e w' ⟨t,st',a7,a8,c7,c8,rfl,hv,hst,hr,hg⟩
   rw[e1]at hv
   refine⟨t,st',a7,a8,c7,c8,rfl,hv,list_first HM.out hst,?_,?_,hr,gb_trans hgW hg⟩
   ·cases st' with
    | none=>exact hf0
    | some l'=>
     cases hs:(st.bind (markS 91)).map (List.dropWhile isSp) with
     | none=>rw[hs]at hst;cases hst
     | some l1=>
      rw[hs]at hst hl2
      have:=valS_len f l1 _ hst
      simp only[Option.getD_some]at hl2 ⊢
      simp only at this
      omega
   ·cases st' with
    | none=>simp[togo]
    | some l'=>have:=hr.len;simp only[togo];omega
  go_upto_region 5 with fail
  go_cut [] (fun wc=>∃ k,ListI f w b s (st.bind (listS (valS f))) k wc)
  case first=>
   go_region_law ((first | (refine step_appendV (by rfl) _ _ (by rfl) (w.heap.size+2) (.slice none 0 0) 0 [] t0.kind t0.n ⟨t0.s.toArray⟩ a7 a8 t0.keys.length c7 t0.l.length c8 (by rfl) (by rfl) (World.ownsRow_nil _ _ _ _) hsz3 (by omega) ?_;intro g cap w4 ho4 hg4 hgg4;obtain⟨x0,x1,x2,x3,x4,y0,y1,y2,y3,y4⟩:=(bx3.out.1.grown (World.grownBy_alloc _ _ none) (by simp)).grown hg4 (by simp[Value.ownBlock]) |>.c;obtain⟨p0,p1,p2,p3,p4,-,-,-,p9,p10⟩:=(bx3.out.2.grown (World.grownBy_alloc _ _ none) (by simp)).grown hg4 (by simp[Value.ownBlock]) |>.c) | (go_simp;go_at_call 63;refine(call5.out _ (by rfl) (by rfl) (by rfl) (by rfl)).mono ?_;rintro e w3 ⟨t0,st3,a7,a8,c7,c8,rfl,hv3,hT3,hl3,ht3,hr3,hg3⟩;have hsz3:w.heap.size+2<=w3.heap.size:=Nat.le_trans bx2.out.2.lt hg3.size;have bx3:Hid (BoxIs w3 w.heap.size (.int .i64 0) (.int .i64 0) (.string ⟨#[]⟩) (.slice none 0 0) (.slice none 0 0)/\BoxIs w3 (w.heap.size+1) (.int .i64 4) (.int .i64 0) (.string ⟨#[]⟩) (.slice none 0 0) (.slice none 0 0)):=⟨bx2.out.1.grown hg3 (by simp;omega),bx2.out.2.grown hg3 (by simp;omega)⟩;have k4:∀ o,(w3.alloc o).cell? ⟨w.heap.size+1,4,none⟩=some (.slice none 0 0):=fun o=>(bx3.out.2.grown (World.grownBy_alloc w3 o none) (by simp)).c.2.2.2.2.1;have q4:=bx3.out.2.c.2.2.2.2.1;have V3:Hid (_/\_/\_/\_/\_/\_):=⟨hv3,hT3,hl3,ht3,hr3,hg3⟩;clear hv3 hT3 hl3 ht3 hr3 hg3)))
   all_goals
    go_wp2_with fail
    go_meet
    case rel=>
     obtain⟨hv3,hT3,hl3,ht3,hr3,hg3⟩:=V3.out
     refine⟨togo st3,listI_mk (acc:=[]) (g0:=w3.heap.size) hbl bx3.out.1 bx3.out.2 (World.ownsRow_nil _ _ _ _) (.inl rfl) rfl ?_ hT3.symm hl3 (by simpa using ht3) hr3 (G3.out.2.2.grown hg3 (by intro k hk;cases hk;exact hb4)) hb4 (gb_trans G3.out.2.1 hg3) ho4 hg4 hgg4⟩
     exact hv3.below.weak fun k hk=>⟨Nat.le_trans bx2.out.2.lt hk.1,by omega⟩
  case rest=>
   obtain⟨k0,hI0⟩:=hcut
   have I0:=hidI hI0
   clear hI0 x0 x1 x2 x3 x4 y0 y1 y2 y3 y4 p0 p1 p2 p3 p4 p9 p10 call5 bx2 G3
   go_wp2_with fail
   go_loopg [] k0 (fun k wr=>ListI f w b s (st.bind (listS (valS f))) k wr)
   case atStart=>exact I0.out
   case round=>
    obtain⟨acc,st1,g0,cap0,cs,hk,hT,hc,hl1,bxC,bxA,ho,hrow,hr,hGr,hg⟩:=hrel
    have A:Hid (gk=togo st1/\itemsT (valS f) acc st1=st.bind (listS (valS f))/\acc.length+gk<=3000/\(st1.getD []).length < f/\BoxIs wr w.heap.size (.int .i64 0) (.int .i64 0) (.string ⟨#[]⟩) (.slice none 0 0) (.slice none 0 0)/\BoxIs wr (w.heap.size+1) (.int .i64 4) (.int .i64 0) (.string ⟨#[]⟩) (.slice none 0 0) (.slice (some ⟨g0,0,none⟩) acc.length cap0)/\wr.ownsRow (w.heap.size+2) 25 5 (.slice (some ⟨g0,0,none⟩) acc.length cap0) acc.length cs/\RowV (VIs wr (fun k=>w.heap.size+2<=k/\k≠g0) f) acc cs/\RdSt wr b s st1/\Glob wr/\w.grownBy wr (some b)):=⟨hk,hT,hc,hl1,bxC,bxA,ho,hrow,hr,hGr,hg⟩
    have hacc:acc.length<=3000:=by omega
    clear hk hT hc hl1 bxC bxA ho hrow hr hGr hg
    go_wp2_with fail
    refine(mark_st _ b s st1 44 44 rfl (by decide) (by exact A.out.2.2.2.2.2.2.2.2.1)).mono ?_
    rintro e w2 ⟨rfl,h2,hg2⟩
    have D:Hid (RdSt w2 b s (if (st1.bind (markS 44)).isSome then st1.bind (markS 44) else st1.map (List.dropWhile isSp))/\wr.grownBy w2 (some b)/\BoxIs w2 w.heap.size (.int .i64 0) (.int .i64 0) (.string ⟨#[]⟩) (.slice none 0 0) (.slice none 0 0)/\BoxIs w2 (w.heap.size+1) (.int .i64 4) (.int .i64 0) (.string ⟨#[]⟩) (.slice none 0 0) (.slice (some ⟨g0,0,none⟩) acc.length cap0)/\w2.ownsRow (w.heap.size+2) 25 5 (.slice (some ⟨g0,0,none⟩) acc.length cap0) acc.length cs/\RowV (VIs w2 (fun k=>w.heap.size+2<=k/\k≠g0) f) acc cs/\Glob w2/\w.grownBy w2 (some b)):=by
     obtain⟨hk,hT,hc,hl1,bxC,bxA,ho,hrow,hr,hGr,hg⟩:=A.out
     exact⟨h2,hg2,bxC.grown hg2 (by simp;omega),bxA.grown hg2 (by simp;omega),own_kept' ho hg2 (by omega),hrow.imp (fun x v h=>h.grown hg2 (fun k hk e=>by simp at e;omega)),hGr.grown hg2 (by intro k hk;cases hk;exact hb4),gb_trans hg hg2⟩
    clear h2 hg2
    obtain⟨x0,x1,x2,x3,x4,y0,y1,y2,y3,y4⟩:=D.out.2.2.1.c
    obtain⟨p0,p1,p2,p3,p4,-,-,-,p9,p10⟩:=D.out.2.2.2.1.c
    cases hm:(st1.bind (markS 44)).isSome with
    | true=>
     have HM:=hidI hm
     have R2:Hid (RdSt w2 b s (st1.bind (markS 44))):=by have:=D.out.1;rw[if_pos hm]at this;exact this
     clear hm
     have call7:Hid (∀ W,W.heap=w2.heap->W.os=w2.os->W.tape=w2.tape->W.output=w2.output->Calls Tryz.prog 63 #[.pointer (some ⟨b,0,none⟩)] W fun e w'=>∃ (t:V) (st':Option (List UInt8)) (a7 a8:Option Addr) (c7 c8:Nat),
      e=.returned (.agg #[.int .i64 t.kind,.int .i64 t.n,.string ⟨t.s.toArray⟩,.slice a7 t.keys.length c7,.slice a8 t.l.length c8])/\VIs w' (fun k=>w2.heap.size<=k) f t (.agg #[.int .i64 t.kind,.int .i64 t.n,.string ⟨t.s.toArray⟩,.slice a7 t.keys.length c7,.slice a8 t.l.length c8])/\st.bind (listS (valS f))=itemsT (valS f) (acc++[t]) st'/\togo st' < gk/\(st'.getD []).length < f/\RdSt w' b s st'/\w2.grownBy w' (some b)):=by
      intro W e1 e2 e3 e4
      obtain⟨hk,hT,hc,hl1,-⟩:=A.out
      have hl2:((st1.bind (markS 44)).getD []).length < f:=by
       cases st1 with
       | none=>exact hf0
       | some l0=>
        cases hs:markS 44 l0 with
        | none=>simp only[Option.bind_some,hs];exact hf0
        | some l=>
         have:=markS_len hs
         simp only[Option.bind_some,hs,Option.getD_some]at hl1 ⊢
         omega
      have hgW:w2.grownBy W (some b):=⟨e2,e3,e4,by rw[e1];exact Nat.le_refl _,fun k _ _=>by rw[e1]⟩
      refine(IH.out W b s _ (R2.out.of_heap (by rw[e1])) (D.out.2.2.2.2.2.2.1.same e1) hb4 hl2).mono ?_
      rintro e w' ⟨t,st',a7,a8,c7,c8,rfl,hv,hst,hr,hg⟩
      rw[e1]at hv
      obtain⟨i1,i2⟩:=items_step (acc:=acc) (valS_len f) HM.out hst
      refine⟨t,st',a7,a8,c7,c8,rfl,hv,by rw[<-hT,i1],by rw[hk];exact i2,?_,hr,gb_trans hgW hg⟩
      cases st' with
      | none=>exact hf0
      | some l'=>
       cases hs:st1.bind (markS 44) with
       | none=>rw[hs]at hst;cases hst
       | some l1=>
        rw[hs]at hst hl2
        have:=valS_len f l1 _ hst
        simp only[Option.getD_some]at hl2 ⊢
        simp only at this
        omega
     go_wp2_with fail
     go_region_law ((first | (refine step_appendV (by rfl) _ _ (by rfl) (w.heap.size+2) (.slice (some ⟨g0,0,none⟩) acc.length cap0) acc.length cs t0.kind t0.n ⟨t0.s.toArray⟩ a7 a8 t0.keys.length c7 t0.l.length c8 (by rfl) (by rfl) bx3.out.2.2 hsz3 (by omega) ?_;intro g cap w4 ho4 hg4 hgg4;obtain⟨x0,x1,x2,x3,x4,y0,y1,y2,y3,y4⟩:=(bx3.out.1.grown (World.grownBy_alloc _ _ none) (by simp)).grown hg4 (hne4.out _ (by omega)) |>.c;obtain⟨p0,p1,p2,p3,p4,-,-,-,p9,p10⟩:=(bx3.out.2.1.grown (World.grownBy_alloc _ _ none) (by simp)).grown hg4 (hne4.out _ (by omega)) |>.c) | (go_simp;go_at_call 63;refine(call7.out _ (by rfl) (by rfl) (by rfl) (by rfl)).mono ?_;rintro e w3 ⟨t0,st3,a7,a8,c7,c8,rfl,hv3,hT3,hl3,ht3,hr3,hg3⟩;have hsz3:w.heap.size+2<=w3.heap.size:=Nat.le_trans D.out.2.2.2.1.lt hg3.size;have bx3:Hid (BoxIs w3 w.heap.size (.int .i64 0) (.int .i64 0) (.string ⟨#[]⟩) (.slice none 0 0) (.slice none 0 0)/\BoxIs w3 (w.heap.size+1) (.int .i64 4) (.int .i64 0) (.string ⟨#[]⟩) (.slice none 0 0) (.slice (some ⟨g0,0,none⟩) acc.length cap0)/\w3.ownsRow (w.heap.size+2) 25 5 (.slice (some ⟨g0,0,none⟩) acc.length cap0) acc.length cs):=⟨D.out.2.2.1.grown hg3 (by simp;omega),D.out.2.2.2.1.grown hg3 (by simp;omega),own_kept' D.out.2.2.2.2.1 hg3 (by omega)⟩;have hne4:Hid (∀ k,k < w.heap.size+2->some k≠(Value.slice (some ⟨g0,0,none⟩) acc.length cap0).ownBlock):=(fun k hk e=>by have:=(bx3.out.2.2.lt k e.symm).1;omega);have k4:∀ o,(w3.alloc o).cell? ⟨w.heap.size+1,4,none⟩=some (.slice (some ⟨g0,0,none⟩) acc.length cap0):=fun o=>(bx3.out.2.1.grown (World.grownBy_alloc w3 o none) (by simp)).c.2.2.2.2.1;have q4:=bx3.out.2.1.c.2.2.2.2.1;have V3:Hid (_/\_/\_/\_/\_/\_):=⟨hv3,hT3,hl3,ht3,hr3,hg3⟩;clear hv3 hT3 hl3 ht3 hr3 hg3)))
     all_goals
      go_wp2_with fail
      obtain⟨hv3,hT3,htg3,hl3,hr3,hg3⟩:=V3.out
      go_roundg (togo st3)
      case measure=>exact htg3
      case rel=>
       refine listI_mk (g0:=g0) hbl bx3.out.1 bx3.out.2.1 bx3.out.2.2 (.inr rfl) (D.out.2.2.2.2.2.1.imp fun x v h=>h.grown hg3 (fun k hk e=>by simp at e;omega)) ?_ hT3.symm hl3 (by have:=A.out.2.2.1;omega) hr3 (D.out.2.2.2.2.2.2.1.grown hg3 (by intro k hk;cases hk;exact hb4)) hb4 (gb_trans D.out.2.2.2.2.2.2.2 hg3) ho4 hg4 hgg4
       exact hv3.weak fun k hk=>⟨Nat.le_trans D.out.2.2.2.1.lt hk,fun e=>by have:=(D.out.2.2.2.2.1.lt g0 rfl).2;omega⟩
    | false=>
     have HM:=hidI hm
     have R2:Hid (RdSt w2 b s (st1.map (List.dropWhile isSp))):=by have:=D.out.1;rw[if_neg (by rw[hm];simp)]at this;exact this
     clear hm
     go_wp2_with fail
     refine(need_st _ b s _ 93 93 rfl (by decide) (by exact R2.out)).mono ?_
     rintro e w3 ⟨rfl,h3,hg3⟩
     have E:Hid (RdSt w3 b s ((st1.map (List.dropWhile isSp)).bind (markS 93))/\w.grownBy w3 (some b)/\BoxIs w3 w.heap.size (.int .i64 0) (.int .i64 0) (.string ⟨#[]⟩) (.slice none 0 0) (.slice none 0 0)/\BoxIs w3 (w.heap.size+1) (.int .i64 4) (.int .i64 0) (.string ⟨#[]⟩) (.slice none 0 0) (.slice (some ⟨g0,0,none⟩) acc.length cap0)/\w3.ownsRow (w.heap.size+2) 25 5 (.slice (some ⟨g0,0,none⟩) acc.length cap0) acc.length cs/\RowV (VIs w3 (fun k=>w.heap.size+2<=k/\k≠g0) f) acc cs):=by
      obtain⟨d1,d2,bxC,bxA,ho,hrow,hGr,hg⟩:=D.out
      exact⟨h3,gb_trans hg hg3,bxC.grown hg3 (by simp;omega),bxA.grown hg3 (by simp;omega),own_kept' ho hg3 (by omega),hrow.imp (fun x v h=>h.grown hg3 (fun k hk e=>by simp at e;omega))⟩
     clear h3 hg3 x0 x1 x2 x3 x4 y0 y1 y2 y3 y4 p0 p1 p2 p3 p4 p9 p10
     obtain⟨x0,x1,x2,x3,x4,y0,y1,y2,y3,y4⟩:=E.out.2.2.1.c
     obtain⟨p0,p1,p2,p3,p4,-⟩:=E.out.2.2.2.1.c
     obtain⟨z0,z1,z2,z3,z4,-⟩:=(E.out.2.2.1.set (.int .i64 4) (.int .i64 0) (.string ⟨#[]⟩) (.slice none 0 0) (.slice (some ⟨g0,0,none⟩) acc.length cap0)).c
     have Z:Hid (_/\_/\_/\_/\_):=⟨z0,z1,z2,z3,z4⟩
     clear z0 z1 z2 z3 z4
     go_wp2_with fail
     obtain⟨z0,z1,z2,z3,z4⟩:=Z.out
     refine bodyPost_ret (v:=.agg #[.int .i64 4,.int .i64 0,.string ⟨#[]⟩,.slice none 0 0,.slice (some ⟨g0,0,none⟩) acc.length cap0]) ?_ rfl ?_
     ·simp only[set5]at z0 z1 z2 z3 z4
      simp[results,Tryz.results95,go_sem,z0,z1,z2,z3,z4]
     ·obtain⟨e1,e2,e3,e4,e5,e6⟩:=E.out
      have g5:=set5_gb w3 w.heap.size (.int .i64 4) (.int .i64 0) (.string ⟨#[]⟩) (.slice none 0 0) (.slice (some ⟨g0,0,none⟩) acc.length cap0)
      refine⟨⟨4,0,[],[],acc⟩,(st1.map (List.dropWhile isSp)).bind (markS 93),none,some ⟨g0,0,none⟩,0,cap0,rfl,?_,?_,?_,?_⟩
      ·refine⟨_,_,rfl,by unfold I64;simp,by unfold I64;simp,by simp,⟨by simp,.inl ⟨rfl,none,rfl⟩⟩,?_⟩
       have e6':RowV (VIs (set5 w3 w.heap.size (.int .i64 4) (.int .i64 0) (.string ⟨#[]⟩) (.slice none 0 0) (.slice (some ⟨g0,0,none⟩) acc.length cap0)) (fun k=>w.heap.size<=k) f) acc cs:=
        e6.imp fun x v h=>(h.grown g5 (fun k hk e=>by simp at e;omega)).weak fun k hk=>by omega
       exact own_vals rfl (own_kept' e5 g5 (by omega)) e6' (fun k hk=>by omega) (by unfold maxLen;simp only;omega)
      ·rw[<-A.out.2.1,items_end HM.out]
      ·exact e1.of_heap (g5.block b e1.lt (by simp;omega))
      ·exact gb_own e2 g5 (by intro k hk;cases hk;exact Nat.le_refl _)
end Go.Proofs.YtmdemcjmcnfjmaaGreatDoor
namespace Go.Proofs.YtmdemcjmcnfjmaaGreatDoor
open Go.RowKit
theorem VIs.form {w:World} {ok:Nat->Prop} {d:Nat} {t:V} {v:Value} (h:VIs w ok d t v):∃ (a7 a8:Option Addr) (c7 c8:Nat),v=(.agg #[.int .i64 t.kind,.int .i64 t.n,.string ⟨t.s.toArray⟩,.slice a7 t.keys.length c7,.slice a8 t.l.length c8]):=by
 match d,h with
 | d+1,h=>
  obtain⟨ks,ls,e,h1,h2,h3,h4,h5⟩:=h
  obtain⟨a1,c1,rfl⟩:=h4.form
  obtain⟨a2,c2,rfl⟩:=h5.form
  exact⟨_,_,_,_,e⟩
theorem withV_paired {t:V} {key:List UInt8} {x:V} (hp:pairedV t=true):pairedV (withV t key x)=true/\(withV t key x).l.length<=t.l.length+1:=by
 have hk:t.kind=5/\t.keys.length=t.l.length:=by simpa [pairedV] using hp
 unfold withV
 rw[if_pos hp]
 split
 ·rename_i i hi
  have:=(idxL_lt hi).1
  simp only[pairedV,Bool.and_eq_true,decide_eq_true_eq,List.length_append,List.length_cons,List.length_take,List.length_drop]
  omega
 ·simp only[pairedV,Bool.and_eq_true,decide_eq_true_eq,List.length_append,List.length_cons,List.length_take,List.length_drop]
  omega
theorem memS_of {g:List UInt8->Option (V × List UInt8)} {t x:V} {key:List UInt8} {st st1 st3:Option (List UInt8)} (h1:st.bind quotS=st1.map (fun l=>(key,l))) (h3:(st1.bind (markS 58)).bind g=st3.map (fun l=>(x,l))) :
 st.bind (memS g t)=if (memV t key).isSome then none else st3.map (fun l=>(withV t key x,l)):=by
 have e:st.bind (memS g t)=(st.bind quotS).bind fun q=>(markS 58 q.2).bind fun l=>(g l).bind fun p=>if (memV t q.1).isSome then none else some (withV t q.1 p.1,p.2):=by
  cases st <;> rfl
 rw[e,h1]
 cases st1 with
 | none=>
  cases st3 with
  | none=>simp
  | some l=>cases h3
 | some l1=>
  simp only[Option.map_some,Option.bind_some]at h3 ⊢
  cases hm:markS 58 l1 with
  | none=>
   rw[hm]at h3
   cases st3 with
   | none=>simp
   | some l=>cases h3
  | some l2=>
   rw[hm]at h3
   simp only[Option.bind_some]at h3 ⊢
   rw[h3]
   cases st3 <;> simp
set_option maxRecDepth 100000 in
set_option maxHeartbeats 4000000 in
theorem member_st (hW:WithC) (f:Nat) (ih:ValC f) (w:World) (b B:Nat) (s:ByteArray) (st:Option (List UInt8)) (t:V) (a7 a8:Option Addr) (c7 c8:Nat) (h:RdSt w b s st) (hG:Glob w) (hb4:6<=b) (hf0:0 < f) (hlen:(st.getD []).length < f+1) (hbB:b < B) (hBw:B<=w.heap.size)
 (hv:VIs w (fun k=>B<=k) (f+1) t (.agg #[.int .i64 t.kind,.int .i64 t.n,.string ⟨t.s.toArray⟩,.slice a7 t.keys.length c7,.slice a8 t.l.length c8])) (hp:pairedV t=true) (htl:t.l.length<=10000) :
 Calls Tryz.prog 134 #[.pointer (some ⟨b,0,none⟩),(.agg #[.int .i64 t.kind,.int .i64 t.n,.string ⟨t.s.toArray⟩,.slice a7 t.keys.length c7,.slice a8 t.l.length c8])] w fun e w'=>∃ (t':V) (st':Option (List UInt8)) (a5 a6:Option Addr) (c5 c6:Nat),
  e=.returned (.agg #[.int .i64 t'.kind,.int .i64 t'.n,.string ⟨t'.s.toArray⟩,.slice a5 t'.keys.length c5,.slice a6 t'.l.length c6])/\VIs w' (fun k=>B<=k) (f+1) t' (.agg #[.int .i64 t'.kind,.int .i64 t'.n,.string ⟨t'.s.toArray⟩,.slice a5 t'.keys.length c5,.slice a6 t'.l.length c6])/\pairedV t'=true/\t'.l.length<=t.l.length+1 /\
  st.bind (memS (valS f) t)=st'.map (fun l=>(t',l))/\RdSt w' b s st'/\w.grownBy w' (some b):=by
 have H:Hid (RdSt w b s st/\Glob w):=⟨h,hG⟩
 have HV:=hidI hv
 have IH:=hidI ih
 have HW:=hidI hW
 have HP:=hidI hp
 have hbl:=h.lt
 clear h hG hv ih hW hp
 go_enter Tryz.func134,Tryz.ntmps134
 go_wp2_with fail
 refine(quoted_st _ b s st (by exact H.out.1.grown (gb_alloc (World.grownBy_alloc w _ none) _) (by simp))).mono ?_
 rintro e w1 ⟨key,st1,rfl,hq,hkl,h1,hg1⟩
 have K1:Hid (st.bind quotS=st1.map (fun l=>(key,l))/\RdSt w1 b s st1/\w.grownBy w1 (some b)/\BoxIs w1 w.heap.size (.int .i64 t.kind) (.int .i64 t.n) (.string ⟨t.s.toArray⟩) (.slice a7 t.keys.length c7) (.slice a8 t.l.length c8)/\BoxIs w1 (w.heap.size+1) (.int .i64 0) (.int .i64 0) (.string ⟨#[]⟩) (.slice none 0 0) (.slice none 0 0)):=
  ⟨hq,h1,gb_trans (gb_alloc (gb_alloc (gb_refl _ _) _) _) hg1,BoxIs.grown (h2a w _ _) hg1 (by simp;omega),BoxIs.grown (h2b w _ _) hg1 (by simp;omega)⟩
 clear hq h1 hg1
 go_wp2_with fail
 refine(need_st _ b s st1 58 58 rfl (by decide) (by exact K1.out.2.1)).mono ?_
 rintro e w2 ⟨rfl,h2,hg2⟩
 have K2:Hid (RdSt w2 b s (st1.bind (markS 58))/\w.grownBy w2 (some b)/\BoxIs w2 w.heap.size (.int .i64 t.kind) (.int .i64 t.n) (.string ⟨t.s.toArray⟩) (.slice a7 t.keys.length c7) (.slice a8 t.l.length c8)/\BoxIs w2 (w.heap.size+1) (.int .i64 0) (.int .i64 0) (.string ⟨#[]⟩) (.slice none 0 0) (.slice none 0 0)/\Glob w2):=
  ⟨h2,gb_trans K1.out.2.2.1 hg2,K1.out.2.2.2.1.grown hg2 (by simp;omega),K1.out.2.2.2.2.grown hg2 (by simp;omega),H.out.2.grown (gb_trans K1.out.2.2.1 hg2) (by intro k hk;cases hk;exact hb4)⟩
 have hl2:Hid (((st1.bind (markS 58)).getD []).length < f):=by
  show _ < _
  cases st1 with
  | none=>exact hf0
  | some l1=>
   cases hm:markS 58 l1 with
   | none=>simp only[Option.bind_some,hm];exact hf0
   | some l2=>
    cases st with
    | none=>have:=K1.out.1;cases this
    | some l0=>
     have h9:=quotS_len (show quotS l0=some (key,l1) from K1.out.1)
     have:=markS_len hm
     simp only[Option.bind_some,hm,Option.getD_some]at hlen ⊢
     simp only at h9
     omega
 clear h2 hg2
 go_wp2_with fail
 refine(IH.out _ b s _ (by exact K2.out.1) (by exact K2.out.2.2.2.2) hb4 hl2.out).mono ?_
 rintro e w3 ⟨x,st3,a5,a6,c5,c6,rfl,hx,hst3,h3,hg3⟩
 have K3:Hid ((st1.bind (markS 58)).bind (valS f)=st3.map (fun l=>(x,l))/\RdSt w3 b s st3/\w.grownBy w3 (some b)/\BoxIs w3 w.heap.size (.int .i64 t.kind) (.int .i64 t.n) (.string ⟨t.s.toArray⟩) (.slice a7 t.keys.length c7) (.slice a8 t.l.length c8)/\BoxIs w3 (w.heap.size+1) (.int .i64 0) (.int .i64 0) (.string ⟨#[]⟩) (.slice none 0 0) (.slice none 0 0) /\
  VIs w3 (fun k=>B<=k/\k≠w.heap.size+1) f x (.agg #[.int .i64 x.kind,.int .i64 x.n,.string ⟨x.s.toArray⟩,.slice a5 x.keys.length c5,.slice a6 x.l.length c6])/\VIs w3 (fun k=>B<=k/\k≠w.heap.size+1) (f+1) t (.agg #[.int .i64 t.kind,.int .i64 t.n,.string ⟨t.s.toArray⟩,.slice a7 t.keys.length c7,.slice a8 t.l.length c8])):=
  ⟨hst3,h3,gb_trans K2.out.2.1 hg3,K2.out.2.2.1.grown hg3 (by simp;omega),K2.out.2.2.2.1.grown hg3 (by simp;omega),hx.weak (fun k hk=>⟨Nat.le_trans (Nat.le_trans hBw K2.out.2.1.size) hk,by have:=K2.out.2.2.2.1.lt;omega⟩),(HV.out.below.weak (fun k hk=>⟨hk.1,by omega⟩)).grown (gb_trans K2.out.2.1 hg3) (fun k hk e=>by cases e;omega)⟩
 have hsz3:w.heap.size+1 < w3.heap.size:=K3.out.2.2.2.2.1.lt
 obtain⟨p0,p1,p2,p3,p4,-⟩:=K3.out.2.2.2.1.c
 clear hst3 h3 hg3 hx
 have r0:∀ o,(w3.alloc o).cell? ⟨w.heap.size,0,none⟩=some (.int .i64 t.kind):=fun o=>(K3.out.2.2.2.1.grown (World.grownBy_alloc w3 o none) (by simp)).c.1
 have r1:∀ o,(w3.alloc o).cell? ⟨w.heap.size,1,none⟩=some (.int .i64 t.n):=fun o=>(K3.out.2.2.2.1.grown (World.grownBy_alloc w3 o none) (by simp)).c.2.1
 have r2:∀ o,(w3.alloc o).cell? ⟨w.heap.size,2,none⟩=some (.string ⟨t.s.toArray⟩):=fun o=>(K3.out.2.2.2.1.grown (World.grownBy_alloc w3 o none) (by simp)).c.2.2.1
 have r3:∀ o,(w3.alloc o).cell? ⟨w.heap.size,3,none⟩=some (.slice a7 t.keys.length c7):=fun o=>(K3.out.2.2.2.1.grown (World.grownBy_alloc w3 o none) (by simp)).c.2.2.2.1
 have r4:∀ o,(w3.alloc o).cell? ⟨w.heap.size,4,none⟩=some (.slice a8 t.l.length c8):=fun o=>(K3.out.2.2.2.1.grown (World.grownBy_alloc w3 o none) (by simp)).c.2.2.2.2.1
 go_wp2_with fail
 refine(member_at _ (fun k=>B<=k/\k≠w.heap.size+1) (f+1) t _ key (by exact K3.out.2.2.2.2.2.2.bel (bel_alloc _ _))).mono ?_
 rintro e w4 ⟨xm,bm,rfl,hb4',hmem⟩
 have B4:Hid (Below w3.heap.size w3 w4):=bel_trans (bel_alloc _ _) hb4'
 have bxX:Hid (BoxIs w4 w3.heap.size (.int .i64 x.kind) (.int .i64 x.n) (.string ⟨x.s.toArray⟩) (.slice a5 x.keys.length c5) (.slice a6 x.l.length c6)):=box_bel hb4' (heap_alloc_new w3 _)
 have hsz4:w3.heap.size < w4.heap.size:=bxX.out.lt
 clear hb4' p0 p1 p2 p3 p4 r0 r1 r2 r3 r4
 have bxV:Hid (∀ o,BoxIs (w4.alloc o) w.heap.size (.int .i64 t.kind) (.int .i64 t.n) (.string ⟨t.s.toArray⟩) (.slice a7 t.keys.length c7) (.slice a8 t.l.length c8)/\BoxIs (w4.alloc o) w3.heap.size (.int .i64 x.kind) (.int .i64 x.n) (.string ⟨x.s.toArray⟩) (.slice a5 x.keys.length c5) (.slice a6 x.l.length c6)/\BoxIs (w4.alloc o) (w.heap.size+1) (.int .i64 0) (.int .i64 0) (.string ⟨#[]⟩) (.slice none 0 0) (.slice none 0 0)):=
  fun o=>⟨box_bel (bel_trans B4.out (bel_alloc w4 o)) K3.out.2.2.2.1,box_bel (bel_alloc w4 o) bxX.out,box_bel (bel_trans B4.out (bel_alloc w4 o)) K3.out.2.2.2.2.1⟩
 have s0:∀ o,(w4.alloc o).cell? ⟨w.heap.size,0,none⟩=some (.int .i64 t.kind):=fun o=>(bxV.out o).1.c.1
 have s1:∀ o,(w4.alloc o).cell? ⟨w.heap.size,1,none⟩=some (.int .i64 t.n):=fun o=>(bxV.out o).1.c.2.1
 have s2:∀ o,(w4.alloc o).cell? ⟨w.heap.size,2,none⟩=some (.string ⟨t.s.toArray⟩):=fun o=>(bxV.out o).1.c.2.2.1
 have s3:∀ o,(w4.alloc o).cell? ⟨w.heap.size,3,none⟩=some (.slice a7 t.keys.length c7):=fun o=>(bxV.out o).1.c.2.2.2.1
 have s4:∀ o,(w4.alloc o).cell? ⟨w.heap.size,4,none⟩=some (.slice a8 t.l.length c8):=fun o=>(bxV.out o).1.c.2.2.2.2.1
 have v0:∀ o,(w4.alloc o).cell? ⟨w3.heap.size,0,none⟩=some (.int .i64 x.kind):=fun o=>(bxV.out o).2.1.c.1
 have v1:∀ o,(w4.alloc o).cell? ⟨w3.heap.size,1,none⟩=some (.int .i64 x.n):=fun o=>(bxV.out o).2.1.c.2.1
 have v2:∀ o,(w4.alloc o).cell? ⟨w3.heap.size,2,none⟩=some (.string ⟨x.s.toArray⟩):=fun o=>(bxV.out o).2.1.c.2.2.1
 have v3:∀ o,(w4.alloc o).cell? ⟨w3.heap.size,3,none⟩=some (.slice a5 x.keys.length c5):=fun o=>(bxV.out o).2.1.c.2.2.2.1
 have v4:∀ o,(w4.alloc o).cell? ⟨w3.heap.size,4,none⟩=some (.slice a6 x.l.length c6):=fun o=>(bxV.out o).2.1.c.2.2.2.2.1
 have hws:Hid (st.bind (memS (valS f) t)=if (memV t key).isSome then none else st3.map (fun l=>(withV t key x,l))):=memS_of K1.out.1 K3.out.1
 have hklm:key.length<=maxLen:=by unfold maxLen;omega
 cases hmv:memV t key with
 | none=>
  rw[hmv]at hmem hws
  obtain⟨rfl,rfl⟩:=hmem
  unfold leaf str
  go_wp2_with fail
  refine(HW.out _ (fun k=>B<=k/\k≠w.heap.size+1) f t x _ _ key (by exact K3.out.2.2.2.2.2.2.bel (bel_trans B4.out (bel_alloc _ _))) (by exact K3.out.2.2.2.2.2.1.bel (bel_trans B4.out (bel_alloc _ _))) HP.out (by omega) hklm).mono ?_
  rintro e w5 ⟨r,rfl,hr5,hb5⟩
  obtain⟨e5,e6,d5,d6,rfl⟩:=hr5.form
  have G5:Hid (VIs w5 (fun k=>B<=k/\k≠w.heap.size+1) (f+1) (withV t key x) (.agg #[.int .i64 (withV t key x).kind,.int .i64 (withV t key x).n,.string ⟨(withV t key x).s.toArray⟩,.slice e5 (withV t key x).keys.length d5,.slice e6 (withV t key x).l.length d6])/\w.grownBy w5 (some b)/\RdSt w5 b s st3/\BoxIs w5 (w.heap.size+1) (.int .i64 0) (.int .i64 0) (.string ⟨#[]⟩) (.slice none 0 0) (.slice none 0 0)):=by
   refine⟨hr5.weak fun k hk=>?_,?_,?_,?_⟩
   ·rcases hk with hk | hk
    ·exact hk
    ·have:=K3.out.2.2.1.size
     simp at hk
     exact⟨by omega,by omega⟩
   ·exact gb_own (gb_own (gb_own K3.out.2.2.1 (gb_below (r:=none) B4.out) (by simp)) (World.grownBy_alloc w4 _ none) (by simp)) (gb_below (r:=none) hb5) (by simp)
   ·exact K3.out.2.1.of_heap (((gb_trans (gb_trans (gb_below (r:=none) B4.out) (World.grownBy_alloc w4 _ none)) (gb_below hb5)).block b K3.out.2.1.lt (by simp)))
   ·exact box_bel hb5 (bxV.out _).2.2
  clear hr5 hb5
  obtain⟨x0,x1,x2,x3,x4,y0,y1,y2,y3,y4⟩:=G5.out.2.2.2.c
  obtain⟨z0,z1,z2,z3,z4,-⟩:=(G5.out.2.2.2.set (.int .i64 (withV t key x).kind) (.int .i64 (withV t key x).n) (.string ⟨(withV t key x).s.toArray⟩) (.slice e5 (withV t key x).keys.length d5) (.slice e6 (withV t key x).l.length d6)).c
  have Z:Hid (_/\_/\_/\_/\_):=⟨z0,z1,z2,z3,z4⟩
  clear z0 z1 z2 z3 z4
  go_wp2_with fail
  obtain⟨z0,z1,z2,z3,z4⟩:=Z.out
  refine bodyPost_ret (v:=(.agg #[.int .i64 (withV t key x).kind,.int .i64 (withV t key x).n,.string ⟨(withV t key x).s.toArray⟩,.slice e5 (withV t key x).keys.length d5,.slice e6 (withV t key x).l.length d6])) ?_ rfl ?_
  ·simp only[set5]at z0 z1 z2 z3 z4
   simp[results,Tryz.results134,go_sem,z0,z1,z2,z3,z4]
  ·obtain⟨g1,g2,g3,g4⟩:=G5.out
   have g5:=set5_gb w5 (w.heap.size+1) (.int .i64 (withV t key x).kind) (.int .i64 (withV t key x).n) (.string ⟨(withV t key x).s.toArray⟩) (.slice e5 (withV t key x).keys.length d5) (.slice e6 (withV t key x).l.length d6)
   have hwp:=withV_paired (key:=key) (x:=x) HP.out
   refine⟨withV t key x,st3,e5,e6,d5,d6,rfl,?_,hwp.1,hwp.2,?_,g3.of_heap (g5.block b g3.lt (by simp;omega)),gb_own g2 g5 (by intro k hk;cases hk;omega)⟩
   ·exact(g1.grown g5 (fun k hk e=>by simp at e;exact hk.2 e)).weak fun k hk=>hk.1
   ·rw[hws.out];rfl
 | some y=>
  rw[hmv]at hmem hws
  obtain⟨rfl,hy⟩:=hmem
  obtain⟨i5,i6,j5,j6,rfl⟩:=hy.form
  clear hy
  go_wp2_with fail
  refine(fail_st _ b s st3 (by exact K3.out.2.1.of_heap (((gb_trans (gb_below (r:=none) B4.out) (World.grownBy_alloc w4 _ none))).block b K3.out.2.1.lt (by simp)))).mono ?_
  rintro e w6 ⟨rfl,h6,hg6⟩
  have G6:Hid (RdSt w6 b s none/\w.grownBy w6 (some b)/\VIs w6 (fun k=>B<=k/\k≠w.heap.size+1) (f+1) t (.agg #[.int .i64 t.kind,.int .i64 t.n,.string ⟨t.s.toArray⟩,.slice a7 t.keys.length c7,.slice a8 t.l.length c8])/\VIs w6 (fun k=>B<=k/\k≠w.heap.size+1) f x (.agg #[.int .i64 x.kind,.int .i64 x.n,.string ⟨x.s.toArray⟩,.slice a5 x.keys.length c5,.slice a6 x.l.length c6])/\BoxIs w6 (w.heap.size+1) (.int .i64 0) (.int .i64 0) (.string ⟨#[]⟩) (.slice none 0 0) (.slice none 0 0)/\w.heap.size<=w6.heap.size):=by
   have ga:w3.grownBy w6 (some b):=gb_trans (gb_trans (gb_below B4.out) (World.grownBy_alloc w4 _ _)) hg6
   exact⟨h6,gb_trans K3.out.2.2.1 ga,K3.out.2.2.2.2.2.2.grown ga (fun k hk e=>by cases e;omega),K3.out.2.2.2.2.2.1.grown ga (fun k hk e=>by cases e;omega),K3.out.2.2.2.2.1.grown ga (by simp;omega),Nat.le_trans K3.out.2.2.1.size ga.size⟩
  have t0:=(bxV.out (.cells #[.int .i64 y.kind,.int .i64 y.n,.string ⟨y.s.toArray⟩,.slice i5 y.keys.length j5,.slice i6 y.l.length j6] 25))
  obtain⟨s0',s1',s2',s3',s4',-⟩:=(t0.1.grown hg6 (by simp;omega)).c
  obtain⟨v0',v1',v2',v3',v4',-⟩:=(t0.2.1.grown hg6 (by simp;have:=K3.out.2.2.1.size;omega)).c
  have hsz6:=hg6.size
  clear h6 hg6 t0
  go_wp2_with fail
  refine(HW.out _ (fun k=>B<=k/\k≠w.heap.size+1) f t x _ _ key (by exact G6.out.2.2.1) (by exact G6.out.2.2.2.1) HP.out (by omega) hklm).mono ?_
  rintro e w5 ⟨r,rfl,hr5,hb5⟩
  obtain⟨e5,e6,d5,d6,rfl⟩:=hr5.form
  have G5:Hid (VIs w5 (fun k=>B<=k/\k≠w.heap.size+1) (f+1) (withV t key x) (.agg #[.int .i64 (withV t key x).kind,.int .i64 (withV t key x).n,.string ⟨(withV t key x).s.toArray⟩,.slice e5 (withV t key x).keys.length d5,.slice e6 (withV t key x).l.length d6])/\w.grownBy w5 (some b)/\RdSt w5 b s (none:Option (List UInt8))/\BoxIs w5 (w.heap.size+1) (.int .i64 0) (.int .i64 0) (.string ⟨#[]⟩) (.slice none 0 0) (.slice none 0 0)):=by
   refine⟨hr5.weak fun k hk=>?_,?_,?_,?_⟩
   ·rcases hk with hk | hk
    ·exact hk
    ·have:=G6.out.2.2.2.2.2
     exact⟨by omega,by have:=G6.out.2.2.2.2.1.lt;omega⟩
   ·exact gb_own (gb_trans G6.out.2.1 (gb_refl _ _)) (gb_below (r:=none) hb5) (by simp)
   ·exact G6.out.1.of_heap ((gb_below (r:=none) hb5).block b G6.out.1.lt (by simp))
   ·exact box_bel hb5 G6.out.2.2.2.2.1
  clear hr5 hb5
  obtain⟨x0,x1,x2,x3,x4,y0,y1,y2,y3,y4⟩:=G5.out.2.2.2.c
  obtain⟨z0,z1,z2,z3,z4,-⟩:=(G5.out.2.2.2.set (.int .i64 (withV t key x).kind) (.int .i64 (withV t key x).n) (.string ⟨(withV t key x).s.toArray⟩) (.slice e5 (withV t key x).keys.length d5) (.slice e6 (withV t key x).l.length d6)).c
  have Z:Hid (_/\_/\_/\_/\_):=⟨z0,z1,z2,z3,z4⟩
  clear z0 z1 z2 z3 z4
  go_wp2_with fail
  obtain⟨z0,z1,z2,z3,z4⟩:=Z.out
  refine bodyPost_ret (v:=(.agg #[.int .i64 (withV t key x).kind,.int .i64 (withV t key x).n,.string ⟨(withV t key x).s.toArray⟩,.slice e5 (withV t key x).keys.length d5,.slice e6 (withV t key x).l.length d6])) ?_ rfl ?_
  ·simp only[set5]at z0 z1 z2 z3 z4
   simp[results,Tryz.results134,go_sem,z0,z1,z2,z3,z4]
  ·obtain⟨g1,g2,g3,g4⟩:=G5.out
   have g5:=set5_gb w5 (w.heap.size+1) (.int .i64 (withV t key x).kind) (.int .i64 (withV t key x).n) (.string ⟨(withV t key x).s.toArray⟩) (.slice e5 (withV t key x).keys.length d5) (.slice e6 (withV t key x).l.length d6)
   have hwp:=withV_paired (key:=key) (x:=x) HP.out
   refine⟨withV t key x,(none:Option (List UInt8)),e5,e6,d5,d6,rfl,?_,hwp.1,hwp.2,?_,g3.of_heap (g5.block b g3.lt (by simp;omega)),gb_own g2 g5 (by intro k hk;cases hk;omega)⟩
   ·exact(g1.grown g5 (fun k hk e=>by simp at e;exact hk.2 e)).weak fun k hk=>hk.1
   ·rw[hws.out];rfl
end Go.Proofs.YtmdemcjmcnfjmaaGreatDoor
namespace Go.Proofs.YtmdemcjmcnfjmaaGreatDoor
open Go.RowKit
theorem membsS_fuel {g:List UInt8->Option (V × List UInt8)} (hg:Less g) (n:Nat):∀ (m:Nat) (v:V) (l:List UInt8),l.length < n->l.length < m->membsS g n v l=membsS g m v l:=by
 induction n with
 | zero=>intro m v l h;omega
 | succ n ih=>
  intro m v l h1 h2
  cases m with
  | zero=>omega
  | succ m=>
   simp only[membsS]
   split
   ·rename_i r hr
    have:=markS_len hr
    cases hgr:memS g v r with
    | none=>rfl
    | some p=>
     have:=memS_len hg _ _ _ hgr
     exact ih m _ _ (by omega) (by omega)
   ·rfl
def membsT (g:List UInt8->Option (V × List UInt8)) (v:V) (st:Option (List UInt8)):Option (V × List UInt8):=st.bind fun l=>membsS g (l.length+1) v l
theorem membs_step {g:List UInt8->Option (V × List UInt8)} (hg:Less g) {v t0:V} {st1 st3:Option (List UInt8)} (h2:(st1.bind (markS 44)).isSome=true) (h3:(st1.bind (markS 44)).bind (memS g v)=st3.map (fun l=>(t0,l))) :
 membsT g v st1=membsT g t0 st3/\togo st3 < togo st1:=by
 cases st1 with
 | none=>cases h2
 | some l=>
  cases hm:markS 44 l with
  | none=>simp[hm]at h2
  | some r=>
   have hr:=markS_len hm
   simp only[Option.bind_some,hm]at h3
   have e:membsT g v (some l)=(memS g v r).bind fun p=>membsS g l.length p.1 p.2:=by
    show membsS g (l.length+1) v l=_
    simp only[membsS,hm]
   rw[e,h3]
   cases st3 with
   | none=>exact⟨rfl,by simp[togo]⟩
   | some l3=>
    have hl:=memS_len hg _ _ _ h3
    simp only at hl
    exact⟨membsS_fuel hg _ _ _ _ (by simp only;omega) (by simp only;omega),by simp only[togo];omega⟩
theorem membs_end {g:List UInt8->Option (V × List UInt8)} {v:V} {st1:Option (List UInt8)} (h2:(st1.bind (markS 44)).isSome=false) :
 membsT g v st1=((st1.map (List.dropWhile isSp)).bind (markS 125)).map fun r=>(v,r):=by
 cases st1 with
 | none=>rfl
 | some l=>
  cases hm:markS 44 l with
  | some r=>simp[hm]at h2
  | none=>
   show membsS g (l.length+1) v l=_
   simp only[membsS,hm];rfl
theorem objS_next {g:List UInt8->Option (V × List UInt8)} {st:Option (List UInt8)} :
 st.bind (objS g)=(st.bind (markS 123)).bind fun l=>match markS 125 l with | some r=>some (⟨5,0,[],[],[]⟩,r) | none=>(memS g ⟨5,0,[],[],[]⟩ (l.dropWhile isSp)).bind fun p=>membsS g (p.2.length+1) p.1 p.2:=by
 cases st <;> rfl
theorem obj_first {g:List UInt8->Option (V × List UInt8)} {st st3:Option (List UInt8)} {t0:V} (h2:((st.bind (markS 123)).bind (markS 125)).isSome=false)
 (h3:((st.bind (markS 123)).map (List.dropWhile isSp)).bind (memS g ⟨5,0,[],[],[]⟩)=st3.map (fun l=>(t0,l))):st.bind (objS g)=membsT g t0 st3:=by
 rw[objS_next]
 cases hs:st.bind (markS 123) with
 | none=>
  rw[hs]at h3
  cases st3 with
  | none=>rfl
  | some l=>cases h3
 | some l=>
  rw[hs]at h2 h3
  simp only[Option.bind_some]at h2 ⊢
  have hm:markS 125 l=none:=by cases hm:markS 125 l with
   | none=>rfl
   | some r=>simp[hm]at h2
  rw[hm]
  have h3':memS g ⟨5,0,[],[],[]⟩ (l.dropWhile isSp)=st3.map (fun l=>(t0,l)):=h3
  simp only[h3']
  cases st3 <;> rfl
def ObjI (f:Nat) (w:World) (b:Nat) (s:ByteArray) (T:Option (V × List UInt8)) (k:Nat) (wr:World):Prop:=
 ∃ (t:V) (st1:Option (List UInt8)) (a7 a8:Option Addr) (c7 c8:Nat),k=togo st1/\membsT (valS f) t st1=T/\t.l.length+k<=3000/\(st1.getD []).length < f+1/\BoxIs wr w.heap.size (.int .i64 0) (.int .i64 0) (.string ⟨#[]⟩) (.slice none 0 0) (.slice none 0 0)/\BoxIs wr (w.heap.size+1) (.int .i64 t.kind) (.int .i64 t.n) (.string ⟨t.s.toArray⟩) (.slice a7 t.keys.length c7) (.slice a8 t.l.length c8) /\
  VIs wr (fun k=>w.heap.size+2<=k) (f+1) t (.agg #[.int .i64 t.kind,.int .i64 t.n,.string ⟨t.s.toArray⟩,.slice a7 t.keys.length c7,.slice a8 t.l.length c8])/\pairedV t=true/\RdSt wr b s st1/\Glob wr/\w.grownBy wr (some b)
theorem objI_mk {f:Nat} {w w3:World} {b:Nat} {s:ByteArray} {T:Option (V × List UInt8)} {t:V} {st3:Option (List UInt8)} {a7 a8:Option Addr} {c7 c8:Nat} {d0 d1 d2 d3 d4:Value} (hb4:6<=b) (hbl:b < w.heap.size)
 (bxC:BoxIs w3 w.heap.size (.int .i64 0) (.int .i64 0) (.string ⟨#[]⟩) (.slice none 0 0) (.slice none 0 0)) (bxA:BoxIs w3 (w.heap.size+1) d0 d1 d2 d3 d4) (hv:VIs w3 (fun k=>w.heap.size+2<=k) (f+1) t (.agg #[.int .i64 t.kind,.int .i64 t.n,.string ⟨t.s.toArray⟩,.slice a7 t.keys.length c7,.slice a8 t.l.length c8])) (hp:pairedV t=true) (hT:membsT (valS f) t st3=T) (hl:(st3.getD []).length < f+1) (hc:t.l.length+togo st3<=3000)
 (hr:RdSt w3 b s st3) (hG:Glob w3) (hg:w.grownBy w3 (some b)):ObjI f w b s T (togo st3) (set5 w3 (w.heap.size+1) (.int .i64 t.kind) (.int .i64 t.n) (.string ⟨t.s.toArray⟩) (.slice a7 t.keys.length c7) (.slice a8 t.l.length c8)):=by
 have g5:=set5_gb w3 (w.heap.size+1) (.int .i64 t.kind) (.int .i64 t.n) (.string ⟨t.s.toArray⟩) (.slice a7 t.keys.length c7) (.slice a8 t.l.length c8)
 exact⟨t,st3,a7,a8,c7,c8,rfl,hT,hc,hl,bxC.grown g5 (by simp),bxA.set _ _ _ _ _,hv.grown g5 (fun k hk e=>by simp at e;omega),hp,hr.of_heap (g5.block b hr.lt (by simp;omega)),
  hG.grown g5 (fun k hk=>by cases hk;omega),gb_own hg g5 (by intro k hk;cases hk;omega)⟩
set_option maxRecDepth 100000 in
set_option maxHeartbeats 4000000 in
theorem object_st (hW:WithC) (f:Nat) (ih:ValC f) (w:World) (b:Nat) (s:ByteArray) (st:Option (List UInt8)) (h:RdSt w b s st) (hG:Glob w) (hb4:6<=b) (hf0:0 < f) (hlen:(st.getD []).length < f+1) :
 Calls Tryz.prog 96 #[.pointer (some ⟨b,0,none⟩)] w fun e w'=>∃ (t:V) (st':Option (List UInt8)) (a7 a8:Option Addr) (c7 c8:Nat),
  e=.returned (.agg #[.int .i64 t.kind,.int .i64 t.n,.string ⟨t.s.toArray⟩,.slice a7 t.keys.length c7,.slice a8 t.l.length c8])/\VIs w' (fun k=>w.heap.size<=k) (f+1) t (.agg #[.int .i64 t.kind,.int .i64 t.n,.string ⟨t.s.toArray⟩,.slice a7 t.keys.length c7,.slice a8 t.l.length c8])/\st.bind (objS (valS f))=st'.map (fun l=>(t,l))/\RdSt w' b s st'/\w.grownBy w' (some b):=by
 have H:=hidI h
 have HG:=hidI hG
 have IH:=hidI ih
 have HW:=hidI hW
 have hbl:=h.lt
 clear h hG ih hW
 go_enter Tryz.func96,Tryz.ntmps96
 go_wp2_with fail
 refine(need_st _ b s st 123 123 rfl (by decide) (by exact H.out.grown (gb_alloc (World.grownBy_alloc w _ none) _) (by simp))).mono ?_
 rintro e w1 ⟨rfl,h1,hg1⟩
 have bx1:Hid (BoxIs w1 w.heap.size (.int .i64 0) (.int .i64 0) (.string ⟨#[]⟩) (.slice none 0 0) (.slice none 0 0)/\BoxIs w1 (w.heap.size+1) (.int .i64 5) (.int .i64 0) (.string ⟨#[]⟩) (.slice none 0 0) (.slice none 0 0)):=
  ⟨BoxIs.grown (h2a w _ _) hg1 (by simp;omega),BoxIs.grown (h2b w _ _) hg1 (by simp;omega)⟩
 have G1:Hid (RdSt w1 b s (st.bind (markS 123))/\w.grownBy w1 (some b)):=⟨h1,gb_trans (gb_alloc (gb_alloc (gb_refl _ _) _) _) hg1⟩
 clear h1 hg1
 go_wp2_with fail
 refine(mark_st _ b s (st.bind (markS 123)) 125 125 rfl (by decide) (by exact G1.out.1)).mono ?_
 rintro e w2 ⟨rfl,h2,hg2⟩
 have bx2:Hid (BoxIs w2 w.heap.size (.int .i64 0) (.int .i64 0) (.string ⟨#[]⟩) (.slice none 0 0) (.slice none 0 0)/\BoxIs w2 (w.heap.size+1) (.int .i64 5) (.int .i64 0) (.string ⟨#[]⟩) (.slice none 0 0) (.slice none 0 0)):=⟨bx1.out.1.grown hg2 (by simp;omega),bx1.out.2.grown hg2 (by simp;omega)⟩
 have G2:Hid (RdSt w2 b s (if ((st.bind (markS 123)).bind (markS 125)).isSome then (st.bind (markS 123)).bind (markS 125) else (st.bind (markS 123)).map (List.dropWhile isSp))/\w.grownBy w2 (some b)):=⟨h2,gb_trans G1.out.2 hg2⟩
 obtain⟨x0,x1,x2,x3,x4,y0,y1,y2,y3,y4⟩:=bx2.out.1.c
 obtain⟨p0,p1,p2,p3,p4,q0,q1,q2,q3,q4⟩:=bx2.out.2.c
 clear h2 hg2 bx1 G1
 cases hm:((st.bind (markS 123)).bind (markS 125)).isSome with
 | true=>
  have HM:=hidI hm
  obtain⟨z0,z1,z2,z3,z4,-⟩:=(bx2.out.1.set (.int .i64 5) (.int .i64 0) (.string ⟨#[]⟩) (.slice none 0 0) (.slice none 0 0)).c
  have Z:Hid (_/\_/\_/\_/\_):=⟨z0,z1,z2,z3,z4⟩
  clear z0 z1 z2 z3 z4 hm
  go_wp2_with fail
  obtain⟨z0,z1,z2,z3,z4⟩:=Z.out
  refine bodyPost_ret (v:=leaf 5 0 []) ?_ rfl ?_
  ·simp only[set5,str]at z0 z1 z2 z3 z4
   simp[results,Tryz.results96,go_sem,z0,z1,z2,z3,z4,leaf,str]
  ·refine⟨leafV 5 0 [],(st.bind (markS 123)).bind (markS 125),none,none,0,0,rfl,leaf_is _ _ f _ _ _ (by unfold I64;omega) (by unfold I64;omega) (by simp),?_,?_,?_⟩
   ·rw[objS_next]
    cases hs:st.bind (markS 123) with
    | none=>rw[hs]at HM;exact absurd HM.out (by simp)
    | some l=>
     rw[hs]at HM
     cases h9:markS 125 l with
     | none=>simp[h9]at HM;exact absurd HM.out (by simp)
     | some r=>simp only[Option.bind_some,h9];rfl
   ·have:=G2.out.1
    rw[if_pos HM.out]at this
    exact this.of_heap ((set5_gb w2 w.heap.size _ _ _ _ _).block b this.lt (by simp;omega))
   ·exact gb_own G2.out.2 (set5_gb w2 w.heap.size _ _ _ _ _) (by intro k hk;cases hk;exact Nat.le_refl _)
 | false=>
  have HM:=hidI hm
  have G3:Hid (RdSt w2 b s ((st.bind (markS 123)).map (List.dropWhile isSp))/\w.grownBy w2 (some b)/\Glob w2):=by
   have:=G2.out.1
   rw[if_neg (by rw[HM.out];simp)]at this
   exact⟨this,G2.out.2,HG.out.grown G2.out.2 (by intro k hk;cases hk;exact hb4)⟩
  clear hm G2
  have call5:Hid (Calls Tryz.prog 134 #[.pointer (some ⟨b,0,none⟩),.agg #[.int .i64 5,.int .i64 0,.string ⟨#[]⟩,.slice none 0 0,.slice none 0 0]] w2 fun e w'=>∃ (t:V) (st':Option (List UInt8)) (a7 a8:Option Addr) (c7 c8:Nat),
   e=.returned (.agg #[.int .i64 t.kind,.int .i64 t.n,.string ⟨t.s.toArray⟩,.slice a7 t.keys.length c7,.slice a8 t.l.length c8])/\VIs w' (fun k=>w.heap.size+2<=k) (f+1) t (.agg #[.int .i64 t.kind,.int .i64 t.n,.string ⟨t.s.toArray⟩,.slice a7 t.keys.length c7,.slice a8 t.l.length c8])/\pairedV t=true/\st.bind (objS (valS f))=membsT (valS f) t st'/\(st'.getD []).length < f+1/\t.l.length+togo st'<=3000/\RdSt w' b s st'/\w2.grownBy w' (some b)):=by
   have hl2:(((st.bind (markS 123)).map (List.dropWhile isSp)).getD []).length < f:=by
    cases hs:st.bind (markS 123) with
    | none=>exact hf0
    | some l=>
     cases st with
     | none=>cases hs
     | some l0=>
      have:=markS_len (show markS 123 l0=some l from hs)
      have:=dropSp_len l
      simp only[Option.getD_some,Option.map_some]at hlen ⊢
      omega
   refine(member_st HW.out f IH.out w2 b (w.heap.size+2) s _ ⟨5,0,[],[],[]⟩ none none 0 0 G3.out.1 G3.out.2.2 hb4 hf0 (by omega) (by omega) bx2.out.2.lt (leaf_is w2 _ f 5 0 [] (by unfold I64;omega) (by unfold I64;omega) (by simp)) rfl (by simp)).mono ?_
   rintro e w' ⟨t,st',a7,a8,c7,c8,rfl,hv,hp,htl,hst,hr,hg⟩
   refine⟨t,st',a7,a8,c7,c8,rfl,hv,hp,obj_first HM.out hst,?_,?_,hr,hg⟩
   ·cases st' with
    | none=>simp
    | some l'=>
     cases hs:(st.bind (markS 123)).map (List.dropWhile isSp) with
     | none=>rw[hs]at hst;cases hst
     | some l1=>
      rw[hs]at hst hl2
      have:=memS_len (valS_len f) _ l1 _ hst
      simp only[Option.getD_some]at hl2 ⊢
      simp only at this
      omega
   ·simp only[List.length_nil]at htl
    cases st' with
    | none=>simp only[togo];omega
    | some l'=>have:=hr.len;simp only[togo];omega
  go_wp2_with fail
  refine(call5.out).mono ?_
  rintro e w3 ⟨t,st3,a7,a8,c7,c8,rfl,hv3,hp3,hT3,hl3,hc3,hr3,hg3⟩
  have I0:Hid (ObjI f w b s (st.bind (objS (valS f))) (togo st3) (set5 w3 (w.heap.size+1) (.int .i64 t.kind) (.int .i64 t.n) (.string ⟨t.s.toArray⟩) (.slice a7 t.keys.length c7) (.slice a8 t.l.length c8))):=
   objI_mk hb4 hbl (bx2.out.1.grown hg3 (by simp;omega)) (bx2.out.2.grown hg3 (by simp;omega)) hv3 hp3 hT3.symm hl3 hc3 hr3 (G3.out.2.2.grown hg3 (by intro k hk;cases hk;exact hb4)) (gb_trans G3.out.2.1 hg3)
  clear p0 p1 p2 p3 p4 q0 q1 q2 q3 q4
  obtain⟨p0,p1,p2,p3,p4,q0,q1,q2,q3,q4⟩:=(bx2.out.2.grown hg3 (by simp;omega)).c
  clear hv3 hp3 hT3 hl3 hc3 hr3 hg3 x0 x1 x2 x3 x4 y0 y1 y2 y3 y4
  go_wp2_with fail
  go_loopg [] (togo st3) (fun k wr=>ObjI f w b s (st.bind (objS (valS f))) k wr)
  case atStart=>exact I0.out
  case round=>
   clear p0 p1 p2 p3 p4 q0 q1 q2 q3 q4 I0 call5 bx2 G3
   obtain⟨t,st1,a7,a8,c7,c8,hk,hT,hc,hl1,bxC,bxA,hv,hp,hr,hGr,hg⟩:=hrel
   have A:Hid (gk=togo st1/\membsT (valS f) t st1=st.bind (objS (valS f))/\t.l.length+gk<=3000/\(st1.getD []).length < f+1/\BoxIs wr w.heap.size (.int .i64 0) (.int .i64 0) (.string ⟨#[]⟩) (.slice none 0 0) (.slice none 0 0)/\BoxIs wr (w.heap.size+1) (.int .i64 t.kind) (.int .i64 t.n) (.string ⟨t.s.toArray⟩) (.slice a7 t.keys.length c7) (.slice a8 t.l.length c8)/\VIs wr (fun k=>w.heap.size+2<=k) (f+1) t (.agg #[.int .i64 t.kind,.int .i64 t.n,.string ⟨t.s.toArray⟩,.slice a7 t.keys.length c7,.slice a8 t.l.length c8])/\pairedV t=true/\RdSt wr b s st1/\Glob wr/\w.grownBy wr (some b)):=⟨hk,hT,hc,hl1,bxC,bxA,hv,hp,hr,hGr,hg⟩
   have htl:t.l.length<=3000:=by omega
   clear hk hT hc hl1 bxC bxA hv hp hr hGr hg
   go_wp2_with fail
   refine(mark_st _ b s st1 44 44 rfl (by decide) (by exact A.out.2.2.2.2.2.2.2.2.1)).mono ?_
   rintro e w2 ⟨rfl,h2,hg2⟩
   have D:Hid (RdSt w2 b s (if (st1.bind (markS 44)).isSome then st1.bind (markS 44) else st1.map (List.dropWhile isSp))/\BoxIs w2 w.heap.size (.int .i64 0) (.int .i64 0) (.string ⟨#[]⟩) (.slice none 0 0) (.slice none 0 0)/\BoxIs w2 (w.heap.size+1) (.int .i64 t.kind) (.int .i64 t.n) (.string ⟨t.s.toArray⟩) (.slice a7 t.keys.length c7) (.slice a8 t.l.length c8)/\VIs w2 (fun k=>w.heap.size+2<=k) (f+1) t (.agg #[.int .i64 t.kind,.int .i64 t.n,.string ⟨t.s.toArray⟩,.slice a7 t.keys.length c7,.slice a8 t.l.length c8])/\Glob w2/\w.grownBy w2 (some b)):=by
    obtain⟨hk,hT,hc,hl1,bxC,bxA,hv,hp,hr,hGr,hg⟩:=A.out
    exact⟨h2,bxC.grown hg2 (by simp;omega),bxA.grown hg2 (by simp;omega),hv.grown hg2 (fun k hk e=>by simp at e;omega),hGr.grown hg2 (by intro k hk;cases hk;exact hb4),gb_trans hg hg2⟩
   clear h2 hg2
   obtain⟨p0,p1,p2,p3,p4,q0,q1,q2,q3,q4⟩:=D.out.2.2.1.c
   cases hm:(st1.bind (markS 44)).isSome with
   | true=>
    have HM:=hidI hm
    have R2:Hid (RdSt w2 b s (st1.bind (markS 44))):=by have:=D.out.1;rw[if_pos hm]at this;exact this
    clear hm
    go_wp2_with fail
    have hl2:Hid (((st1.bind (markS 44)).getD []).length < f+1):=by
     show _ < _
     have hl1:=A.out.2.2.2.1
     cases st1 with
     | none=>simp
     | some l0=>
      cases hs:markS 44 l0 with
      | none=>simp only[Option.bind_some,hs];simp
      | some l=>
       have:=markS_len hs
       simp only[Option.bind_some,hs,Option.getD_some]at hl1 ⊢
       omega
    refine(member_st HW.out f IH.out _ b (w.heap.size+2) s _ t a7 a8 c7 c8 (by exact R2.out) (by exact D.out.2.2.2.2.1) hb4 hf0 hl2.out (by omega) (by exact D.out.2.2.1.lt) (by exact D.out.2.2.2.1) A.out.2.2.2.2.2.2.2.1 (by omega)).mono ?_
    rintro e w3 ⟨t',st3,a5,a6,c5,c6,rfl,hv3,hp3,htl3,hst3,hr3,hg3⟩
    have V3:Hid (ObjI f w b s (st.bind (objS (valS f))) (togo st3) (set5 w3 (w.heap.size+1) (.int .i64 t'.kind) (.int .i64 t'.n) (.string ⟨t'.s.toArray⟩) (.slice a5 t'.keys.length c5) (.slice a6 t'.l.length c6))/\togo st3 < gk):=by
     obtain⟨hk,hT,hc,hl1,-⟩:=A.out
     obtain⟨i1,i2⟩:=membs_step (valS_len f) HM.out hst3
     refine⟨objI_mk hb4 hbl (D.out.2.1.grown hg3 (by simp;omega)) (D.out.2.2.1.grown hg3 (by simp;omega)) hv3 hp3 (by rw[<-hT,i1]) ?_ (by omega) hr3 (D.out.2.2.2.2.1.grown hg3 (by intro k hk;cases hk;exact hb4)) (gb_trans D.out.2.2.2.2.2 hg3),by rw[hk];exact i2⟩
     cases st3 with
     | none=>simp
     | some l'=>
      cases hs:st1.bind (markS 44) with
      | none=>rw[hs]at hst3;cases hst3
      | some l1=>
       rw[hs]at hst3
       have:=memS_len (valS_len f) _ l1 _ hst3
       have h8:=hl2.out
       rw[hs]at h8
       simp only[Option.getD_some]at h8 ⊢
       simp only at this
       omega
    clear p0 p1 p2 p3 p4 q0 q1 q2 q3 q4
    obtain⟨p0,p1,p2,p3,p4,q0,q1,q2,q3,q4⟩:=(D.out.2.2.1.grown hg3 (by simp;omega)).c
    clear hv3 hp3 htl3 hst3 hr3 hg3
    go_wp2_with fail
    go_roundg (togo st3)
    case measure=>exact V3.out.2
    case rel=>exact V3.out.1
   | false=>
    have HM:=hidI hm
    have R2:Hid (RdSt w2 b s (st1.map (List.dropWhile isSp))):=by have:=D.out.1;rw[if_neg (by rw[hm];simp)]at this;exact this
    clear hm
    go_wp2_with fail
    refine(need_st _ b s _ 125 125 rfl (by decide) (by exact R2.out)).mono ?_
    rintro e w3 ⟨rfl,h3,hg3⟩
    have E:Hid (RdSt w3 b s ((st1.map (List.dropWhile isSp)).bind (markS 125))/\w.grownBy w3 (some b)/\BoxIs w3 w.heap.size (.int .i64 0) (.int .i64 0) (.string ⟨#[]⟩) (.slice none 0 0) (.slice none 0 0)/\BoxIs w3 (w.heap.size+1) (.int .i64 t.kind) (.int .i64 t.n) (.string ⟨t.s.toArray⟩) (.slice a7 t.keys.length c7) (.slice a8 t.l.length c8)/\VIs w3 (fun k=>w.heap.size+2<=k) (f+1) t (.agg #[.int .i64 t.kind,.int .i64 t.n,.string ⟨t.s.toArray⟩,.slice a7 t.keys.length c7,.slice a8 t.l.length c8])):=
     ⟨h3,gb_trans D.out.2.2.2.2.2 hg3,D.out.2.1.grown hg3 (by simp;omega),D.out.2.2.1.grown hg3 (by simp;omega),D.out.2.2.2.1.grown hg3 (fun k hk e=>by simp at e;omega)⟩
    clear h3 hg3 p0 p1 p2 p3 p4 q0 q1 q2 q3 q4
    obtain⟨x0,x1,x2,x3,x4,y0,y1,y2,y3,y4⟩:=E.out.2.2.1.c
    obtain⟨p0,p1,p2,p3,p4,-⟩:=E.out.2.2.2.1.c
    obtain⟨z0,z1,z2,z3,z4,-⟩:=(E.out.2.2.1.set (.int .i64 t.kind) (.int .i64 t.n) (.string ⟨t.s.toArray⟩) (.slice a7 t.keys.length c7) (.slice a8 t.l.length c8)).c
    have Z:Hid (_/\_/\_/\_/\_):=⟨z0,z1,z2,z3,z4⟩
    clear z0 z1 z2 z3 z4
    go_wp2_with fail
    obtain⟨z0,z1,z2,z3,z4⟩:=Z.out
    refine bodyPost_ret (v:=(.agg #[.int .i64 t.kind,.int .i64 t.n,.string ⟨t.s.toArray⟩,.slice a7 t.keys.length c7,.slice a8 t.l.length c8])) ?_ rfl ?_
    ·simp only[set5]at z0 z1 z2 z3 z4
     simp[results,Tryz.results96,go_sem,z0,z1,z2,z3,z4]
    ·obtain⟨e1,e2,e3,e4,e5⟩:=E.out
     have g5:=set5_gb w3 w.heap.size (.int .i64 t.kind) (.int .i64 t.n) (.string ⟨t.s.toArray⟩) (.slice a7 t.keys.length c7) (.slice a8 t.l.length c8)
     refine⟨t,(st1.map (List.dropWhile isSp)).bind (markS 125),a7,a8,c7,c8,rfl,(e5.grown g5 (fun k hk e=>by simp at e;omega)).weak (fun k hk=>by omega),?_,e1.of_heap (g5.block b e1.lt (by simp;omega)),gb_own e2 g5 (by intro k hk;cases hk;exact Nat.le_refl _)⟩
     rw[<-A.out.2.1,membs_end HM.out]
end Go.Proofs.YtmdemcjmcnfjmaaGreatDoor
namespace Go.Proofs.YtmdemcjmcnfjmaaGreatDoor
open Go.RowKit
theorem spaces_st (w:World) (b:Nat) (s:ByteArray) (st:Option (List UInt8)) (h:RdSt w b s st) :
 Calls Tryz.prog 64 #[.pointer (some ⟨b,0,none⟩)] w fun e w'=>e=.returned (.tuple #[])/\RdSt w' b s (st.map (List.dropWhile isSp))/\w.grownBy w' (some b):=by
 refine(spaces_at w b s _ _ h).mono ?_
 rintro e w' ⟨he,hr,hg⟩
 refine⟨he,?_,hg⟩
 cases st with
 | none=>exact hr
 | some l=>exact hr
theorem valS_next (f:Nat) (st:Option (List UInt8)):st.bind (valS (f+1))=(st.map (List.dropWhile isSp)).bind (oneS (valS f)):=by cases st <;> rfl
theorem hd_ne {l:List UInt8} {c:UInt8} {m:Int} (hm:m=(c.toNat:Int)) (h:hd0 l≠c):(((hd0 l).toNat:Int) == m)=false:=u8_ne hm h
theorem hd_eq {l:List UInt8} {c:UInt8} {m:Int} (hm:m=(c.toNat:Int)) (h:hd0 l=c):(((hd0 l).toNat:Int) == m)=true:=by rw[h,hm];simp
theorem val_fin {f:Nat} {w w3:World} {b:Nat} {s:ByteArray} {st st':Option (List UInt8)} {t:V} {a7 a8:Option Addr} {c7 c8:Nat} (hbl:b < w.heap.size) (hv:VIs w3 (fun k=>w.heap.size+1<=k) (f+1) t (.agg #[.int .i64 t.kind,.int .i64 t.n,.string ⟨t.s.toArray⟩,.slice a7 t.keys.length c7,.slice a8 t.l.length c8]))
 (hst:st.bind (valS (f+1))=st'.map (fun l=>(t,l))) (hr:RdSt w3 b s st') (hg:w.grownBy w3 (some b)) (hbx:BoxIs w3 w.heap.size (.int .i64 0) (.int .i64 0) (.string ⟨#[]⟩) (.slice none 0 0) (.slice none 0 0)) :
 BoxIs (set5 w3 w.heap.size (.int .i64 t.kind) (.int .i64 t.n) (.string ⟨t.s.toArray⟩) (.slice a7 t.keys.length c7) (.slice a8 t.l.length c8)) w.heap.size (.int .i64 t.kind) (.int .i64 t.n) (.string ⟨t.s.toArray⟩) (.slice a7 t.keys.length c7) (.slice a8 t.l.length c8)/\VIs (set5 w3 w.heap.size (.int .i64 t.kind) (.int .i64 t.n) (.string ⟨t.s.toArray⟩) (.slice a7 t.keys.length c7) (.slice a8 t.l.length c8)) (fun k=>w.heap.size<=k) (f+1) t (.agg #[.int .i64 t.kind,.int .i64 t.n,.string ⟨t.s.toArray⟩,.slice a7 t.keys.length c7,.slice a8 t.l.length c8])/\RdSt (set5 w3 w.heap.size (.int .i64 t.kind) (.int .i64 t.n) (.string ⟨t.s.toArray⟩) (.slice a7 t.keys.length c7) (.slice a8 t.l.length c8)) b s st'/\w.grownBy (set5 w3 w.heap.size (.int .i64 t.kind) (.int .i64 t.n) (.string ⟨t.s.toArray⟩) (.slice a7 t.keys.length c7) (.slice a8 t.l.length c8)) (some b):=by
 have g5:=set5_gb w3 w.heap.size (.int .i64 t.kind) (.int .i64 t.n) (.string ⟨t.s.toArray⟩) (.slice a7 t.keys.length c7) (.slice a8 t.l.length c8)
 exact⟨hbx.set _ _ _ _ _,(hv.grown g5 (fun k hk e=>by simp at e;omega)).weak (fun k hk=>by omega),hr.of_heap (g5.block b hr.lt (by simp;omega)),gb_own hg g5 (by intro k hk;cases hk;exact Nat.le_refl _)⟩
set_option maxRecDepth 100000 in
set_option maxHeartbeats 8000000 in
theorem value_succ (hW:WithC) (f:Nat) (ih:ValC f):ValC (f+1):=by
 intro w b s st h hG hb4 hlen
 have H:=hidI h
 have HG:=hidI hG
 have IH:=hidI ih
 have HW:=hidI hW
 have hbl:=h.lt
 clear h hG ih hW
 go_enter Tryz.func63,Tryz.ntmps63
 go_wp2_with fail
 refine(spaces_st _ b s st (by exact H.out.grown (World.grownBy_alloc w _ none) (by simp))).mono ?_
 rintro e w1 ⟨rfl,h1,hg1⟩
 have K1:Hid (RdSt w1 b s (st.map (List.dropWhile isSp))/\w.grownBy w1 (some b)/\BoxIs w1 w.heap.size (.int .i64 0) (.int .i64 0) (.string ⟨#[]⟩) (.slice none 0 0) (.slice none 0 0)/\Glob w1):=by
  have g:=gb_trans (gb_alloc (gb_refl w (some b)) _) hg1
  exact⟨h1,g,BoxIs.grown (heap_alloc_new w _) hg1 (by simp;omega),HG.out.grown g (by intro k hk;cases hk;exact hb4)⟩
 clear h1 hg1
 go_wp2_with fail
 refine(ahead_at _ b s ((st.map (List.dropWhile isSp)).getD []) (st.map (List.dropWhile isSp)).isNone (by exact K1.out.1)).mono ?_
 rintro e w2 ⟨rfl,n2,hw2⟩
 have K2:Hid (RdSt w2 b s (st.map (List.dropWhile isSp))/\w.grownBy w2 (some b)/\BoxIs w2 w.heap.size (.int .i64 0) (.int .i64 0) (.string ⟨#[]⟩) (.slice none 0 0) (.slice none 0 0)/\Glob w2):=by
  rw[hw2];exact⟨K1.out.1.of_heap rfl,gb_drewN K1.out.2.1 _,K1.out.2.2.1,K1.out.2.2.2.same rfl⟩
 have hsz2:w.heap.size+1<=w2.heap.size:=K2.out.2.2.1.lt
 clear hw2 K1
 have N:Hid (st.bind (valS (f+1))=(st.map (List.dropWhile isSp)).bind (oneS (valS f))):=valS_next f st
 have hlen2:Hid ((((st.map (List.dropWhile isSp)).getD []).length < f+1)):=by
  show _ < _
  cases st with
  | none=>simp
  | some l=>have:=dropSp_len l;simp only[Option.getD_some,Option.map_some]at hlen ⊢;omega
 obtain⟨st1,hst1⟩:∃ st1,st1=st.map (List.dropWhile isSp):=⟨_,rfl⟩
 rw[<-hst1]at K2 N hlen2 ⊢
 have HST:=hidI hst1
 clear hst1
 by_cases q110:hd0 (st1.getD [])=110
 ·have d:=hd_eq (m:=110) rfl q110
  have E:Hid (st1.bind (oneS (valS f))=(st1.bind (wordS [110,117,108,108])).map fun r=>(leafV 0 0 [],r)):=by
   cases st1 with
   | none=>rfl
   | some l=>
    have q:hd0 l=110:=q110
    show oneS (valS f) l=_
    simp only[oneS,q]
    rfl
  go_wp2_with fail
  refine(word_st _ b s st1 ⟨#[110,117,108,108]⟩ 0 0 (by unfold I64;omega) (by unfold I64;omega) (by decide) (by decide) (by exact K2.out.1)).mono ?_
  rintro e w3 ⟨t,v,st3,rfl,⟨kk,nn,rfl,rfl,hkk,hnn⟩,hst3,hr3,hg3⟩
  have HSTF:Hid (st.bind (valS (f+1))=st3.map (fun l=>(leafV kk nn [],l))):=by show _=_;rw[N.out,E.out];exact hst3
  have HBX:BoxIs w3 w.heap.size (.int .i64 0) (.int .i64 0) (.string ⟨#[]⟩) (.slice none 0 0) (.slice none 0 0):=K2.out.2.2.1.grown hg3 (by simp;omega)
  have HVV:VIs w3 (fun k=>w.heap.size+1<=k) (f+1) (leafV kk nn []) (leaf kk nn []):=leaf_is _ _ f _ _ _ hkk hnn (by simp)
  have HGG:=gb_trans K2.out.2.1 hg3
  have HRR:=hr3
  have HST2:=HSTF.out
  clear hst3 hr3 hg3
  unfold leaf str
  have FIN:=hidI (val_fin (f:=f) (a7:=none) (a8:=none) (c7:=0) (c8:=0) hbl HVV HST2 HRR HGG HBX)
  obtain⟨x0,x1,x2,x3,x4,y0,y1,y2,y3,y4⟩:=HBX.c
  obtain⟨z0,z1,z2,z3,z4,-⟩:=(HBX.set (.int .i64 kk) (.int .i64 nn) (.string ⟨#[]⟩) (.slice none 0 0) (.slice none 0 0)).c
  clear HVV HST2 HRR HGG HBX
  have Z:Hid (_/\_/\_/\_/\_):=⟨z0,z1,z2,z3,z4⟩
  clear z0 z1 z2 z3 z4
  go_wp2_with fail
  obtain⟨z0,z1,z2,z3,z4⟩:=Z.out
  refine bodyPost_ret (v:=leaf kk nn []) ?_ rfl ?_
  ·simp only[set5]at z0 z1 z2 z3 z4
   simp[results,Tryz.results63,go_sem,z0,z1,z2,z3,z4,leaf,leafV,str]
  ·exact⟨leafV kk nn [],st3,none,none,0,0,rfl,FIN.out.2.1,HSTF.out,FIN.out.2.2.1,FIN.out.2.2.2⟩
 have n110:=hd_ne (m:=110) rfl q110
 by_cases q102:hd0 (st1.getD [])=102
 ·have d:=hd_eq (m:=102) rfl q102
  have E:Hid (st1.bind (oneS (valS f))=(st1.bind (wordS [102,97,108,115,101])).map fun r=>(leafV 1 0 [],r)):=by
   cases st1 with
   | none=>rfl
   | some l=>
    have q:hd0 l=102:=q102
    show oneS (valS f) l=_
    simp only[oneS,q]
    rfl
  go_wp2_with fail
  refine(word_st _ b s st1 ⟨#[102,97,108,115,101]⟩ 1 0 (by unfold I64;omega) (by unfold I64;omega) (by decide) (by decide) (by exact K2.out.1)).mono ?_
  rintro e w3 ⟨t,v,st3,rfl,⟨kk,nn,rfl,rfl,hkk,hnn⟩,hst3,hr3,hg3⟩
  have HSTF:Hid (st.bind (valS (f+1))=st3.map (fun l=>(leafV kk nn [],l))):=by show _=_;rw[N.out,E.out];exact hst3
  have HBX:BoxIs w3 w.heap.size (.int .i64 0) (.int .i64 0) (.string ⟨#[]⟩) (.slice none 0 0) (.slice none 0 0):=K2.out.2.2.1.grown hg3 (by simp;omega)
  have HVV:VIs w3 (fun k=>w.heap.size+1<=k) (f+1) (leafV kk nn []) (leaf kk nn []):=leaf_is _ _ f _ _ _ hkk hnn (by simp)
  have HGG:=gb_trans K2.out.2.1 hg3
  have HRR:=hr3
  have HST2:=HSTF.out
  clear hst3 hr3 hg3
  unfold leaf str
  have FIN:=hidI (val_fin (f:=f) (a7:=none) (a8:=none) (c7:=0) (c8:=0) hbl HVV HST2 HRR HGG HBX)
  obtain⟨x0,x1,x2,x3,x4,y0,y1,y2,y3,y4⟩:=HBX.c
  obtain⟨z0,z1,z2,z3,z4,-⟩:=(HBX.set (.int .i64 kk) (.int .i64 nn) (.string ⟨#[]⟩) (.slice none 0 0) (.slice none 0 0)).c
  clear HVV HST2 HRR HGG HBX
  have Z:Hid (_/\_/\_/\_/\_):=⟨z0,z1,z2,z3,z4⟩
  clear z0 z1 z2 z3 z4
  go_wp2_with fail
  obtain⟨z0,z1,z2,z3,z4⟩:=Z.out
  refine bodyPost_ret (v:=leaf kk nn []) ?_ rfl ?_
  ·simp only[set5]at z0 z1 z2 z3 z4
   simp[results,Tryz.results63,go_sem,z0,z1,z2,z3,z4,leaf,leafV,str]
  ·exact⟨leafV kk nn [],st3,none,none,0,0,rfl,FIN.out.2.1,HSTF.out,FIN.out.2.2.1,FIN.out.2.2.2⟩
 have n102:=hd_ne (m:=102) rfl q102
 by_cases q116:hd0 (st1.getD [])=116
 ·have d:=hd_eq (m:=116) rfl q116
  have E:Hid (st1.bind (oneS (valS f))=(st1.bind (wordS [116,114,117,101])).map fun r=>(leafV 1 1 [],r)):=by
   cases st1 with
   | none=>rfl
   | some l=>
    have q:hd0 l=116:=q116
    show oneS (valS f) l=_
    simp only[oneS,q]
    rfl
  go_wp2_with fail
  refine(word_st _ b s st1 ⟨#[116,114,117,101]⟩ 1 1 (by unfold I64;omega) (by unfold I64;omega) (by decide) (by decide) (by exact K2.out.1)).mono ?_
  rintro e w3 ⟨t,v,st3,rfl,⟨kk,nn,rfl,rfl,hkk,hnn⟩,hst3,hr3,hg3⟩
  have HSTF:Hid (st.bind (valS (f+1))=st3.map (fun l=>(leafV kk nn [],l))):=by show _=_;rw[N.out,E.out];exact hst3
  have HBX:BoxIs w3 w.heap.size (.int .i64 0) (.int .i64 0) (.string ⟨#[]⟩) (.slice none 0 0) (.slice none 0 0):=K2.out.2.2.1.grown hg3 (by simp;omega)
  have HVV:VIs w3 (fun k=>w.heap.size+1<=k) (f+1) (leafV kk nn []) (leaf kk nn []):=leaf_is _ _ f _ _ _ hkk hnn (by simp)
  have HGG:=gb_trans K2.out.2.1 hg3
  have HRR:=hr3
  have HST2:=HSTF.out
  clear hst3 hr3 hg3
  unfold leaf str
  have FIN:=hidI (val_fin (f:=f) (a7:=none) (a8:=none) (c7:=0) (c8:=0) hbl HVV HST2 HRR HGG HBX)
  obtain⟨x0,x1,x2,x3,x4,y0,y1,y2,y3,y4⟩:=HBX.c
  obtain⟨z0,z1,z2,z3,z4,-⟩:=(HBX.set (.int .i64 kk) (.int .i64 nn) (.string ⟨#[]⟩) (.slice none 0 0) (.slice none 0 0)).c
  clear HVV HST2 HRR HGG HBX
  have Z:Hid (_/\_/\_/\_/\_):=⟨z0,z1,z2,z3,z4⟩
  clear z0 z1 z2 z3 z4
  go_wp2_with fail
  obtain⟨z0,z1,z2,z3,z4⟩:=Z.out
  refine bodyPost_ret (v:=leaf kk nn []) ?_ rfl ?_
  ·simp only[set5]at z0 z1 z2 z3 z4
   simp[results,Tryz.results63,go_sem,z0,z1,z2,z3,z4,leaf,leafV,str]
  ·exact⟨leafV kk nn [],st3,none,none,0,0,rfl,FIN.out.2.1,HSTF.out,FIN.out.2.2.1,FIN.out.2.2.2⟩
 have n116:=hd_ne (m:=116) rfl q116
 by_cases q34:hd0 (st1.getD [])=34
 ·have d:=hd_eq (m:=34) rfl q34
  have E:Hid (st1.bind (oneS (valS f))=(st1.bind quotS).map fun p=>(leafV 3 0 p.1,p.2)):=by
   cases st1 with
   | none=>rfl
   | some l=>
    show oneS (valS f) l=_
    simp only[oneS,if_neg (show ¬hd0 l=110 from q110),if_neg (show ¬hd0 l=102 from q102),if_neg (show ¬hd0 l=116 from q116),if_pos (show hd0 l=34 from q34)]
    rfl
  go_wp2_with fail
  refine(quoted_st _ b s st1 (by exact K2.out.1)).mono ?_
  rintro e w3 ⟨t,st3,rfl,hst3,hkl,hr3,hg3⟩
  have HSTF:Hid (st.bind (valS (f+1))=st3.map (fun l=>(leafV 3 0 t,l))):=by
   show _=_
   rw[N.out,E.out,hst3];cases st3 <;> rfl
  have HBX:BoxIs w3 w.heap.size (.int .i64 0) (.int .i64 0) (.string ⟨#[]⟩) (.slice none 0 0) (.slice none 0 0):=K2.out.2.2.1.grown hg3 (by simp;omega)
  have HVV:VIs w3 (fun k=>w.heap.size+1<=k) (f+1) (leafV 3 0 t) (leaf 3 0 t):=leaf_is _ _ f _ _ _ (by unfold I64;omega) (by unfold I64;omega) (by unfold maxLen;omega)
  have HGG:=gb_trans K2.out.2.1 hg3
  have HRR:=hr3
  have HST2:=HSTF.out
  clear hst3 hr3 hg3
  have FIN:=hidI (val_fin (f:=f) (a7:=none) (a8:=none) (c7:=0) (c8:=0) hbl HVV HST2 HRR HGG HBX)
  obtain⟨x0,x1,x2,x3,x4,y0,y1,y2,y3,y4⟩:=HBX.c
  obtain⟨z0,z1,z2,z3,z4,-⟩:=(HBX.set (.int .i64 3) (.int .i64 0) (.string ⟨t.toArray⟩) (.slice none 0 0) (.slice none 0 0)).c
  clear HVV HST2 HRR HGG HBX
  have Z:Hid (_/\_/\_/\_/\_):=⟨z0,z1,z2,z3,z4⟩
  clear z0 z1 z2 z3 z4
  go_wp2_with fail
  obtain⟨z0,z1,z2,z3,z4⟩:=Z.out
  refine bodyPost_ret (v:=leaf 3 0 t) ?_ rfl ?_
  ·simp only[set5]at z0 z1 z2 z3 z4
   simp[results,Tryz.results63,go_sem,z0,z1,z2,z3,z4,leaf,str]
  ·exact⟨leafV 3 0 t,st3,none,none,0,0,rfl,FIN.out.2.1,HSTF.out,FIN.out.2.2.1,FIN.out.2.2.2⟩
 have n34:=hd_ne (m:=34) rfl q34
 by_cases q91:hd0 (st1.getD [])=91
 ·have d:=hd_eq (m:=91) rfl q91
  have E:Hid (st1.bind (oneS (valS f))=st1.bind (listS (valS f))):=by
   cases st1 with
   | none=>rfl
   | some l=>
    show oneS (valS f) l=_
    simp only[oneS,if_neg (show ¬hd0 l=110 from q110),if_neg (show ¬hd0 l=102 from q102),if_neg (show ¬hd0 l=116 from q116),if_neg (show ¬hd0 l=34 from q34),if_pos (show hd0 l=91 from q91)]
    rfl
  have hf0:0 < f:=by
   have:=hlen2.out
   cases hs:st1.getD [] with
   | nil=>rw[hs]at q91;simp[hd0]at q91
   | cons c r=>rw[hs]at this;simp only[List.length_cons]at this;omega
  go_wp2_with fail
  refine(list_st f IH.out _ b s st1 (by exact K2.out.1) (by exact K2.out.2.2.2) hb4 hf0 hlen2.out).mono ?_
  rintro e w3 ⟨t,st3,a7,a8,c7,c8,rfl,hv3,hst3,hr3,hg3⟩
  have HSTF:Hid (st.bind (valS (f+1))=st3.map (fun l=>(t,l))):=by
   show _=_
   rw[N.out,E.out,hst3]
  have HBX:BoxIs w3 w.heap.size (.int .i64 0) (.int .i64 0) (.string ⟨#[]⟩) (.slice none 0 0) (.slice none 0 0):=K2.out.2.2.1.grown hg3 (by simp;omega)
  have HVV:VIs w3 (fun k=>w.heap.size+1<=k) (f+1) t (.agg #[.int .i64 t.kind,.int .i64 t.n,.string ⟨t.s.toArray⟩,.slice a7 t.keys.length c7,.slice a8 t.l.length c8]):=hv3.weak (fun k hk=>by omega)
  have HGG:=gb_trans K2.out.2.1 hg3
  have HRR:=hr3
  have HST2:=HSTF.out
  clear hst3 hr3 hg3 hv3
  have FIN:=hidI (val_fin (f:=f) hbl HVV HST2 HRR HGG HBX)
  obtain⟨x0,x1,x2,x3,x4,y0,y1,y2,y3,y4⟩:=HBX.c
  obtain⟨z0,z1,z2,z3,z4,-⟩:=FIN.out.1.c
  clear HVV HST2 HRR HGG HBX
  have Z:Hid (_/\_/\_/\_/\_):=⟨z0,z1,z2,z3,z4⟩
  clear z0 z1 z2 z3 z4
  go_wp2_with fail
  obtain⟨z0,z1,z2,z3,z4⟩:=Z.out
  refine bodyPost_ret (v:=(.agg #[.int .i64 t.kind,.int .i64 t.n,.string ⟨t.s.toArray⟩,.slice a7 t.keys.length c7,.slice a8 t.l.length c8])) ?_ rfl ?_
  ·simp only[set5]at z0 z1 z2 z3 z4
   simp[results,Tryz.results63,go_sem,z0,z1,z2,z3,z4]
  ·exact⟨t,st3,a7,a8,c7,c8,rfl,FIN.out.2.1,HSTF.out,FIN.out.2.2.1,FIN.out.2.2.2⟩
 have n91:=hd_ne (m:=91) rfl q91
 by_cases q123:hd0 (st1.getD [])=123
 ·have d:=hd_eq (m:=123) rfl q123
  have E:Hid (st1.bind (oneS (valS f))=st1.bind (objS (valS f))):=by
   cases st1 with
   | none=>rfl
   | some l=>
    show oneS (valS f) l=_
    simp only[oneS,if_neg (show ¬hd0 l=110 from q110),if_neg (show ¬hd0 l=102 from q102),if_neg (show ¬hd0 l=116 from q116),if_neg (show ¬hd0 l=34 from q34),if_neg (show ¬hd0 l=91 from q91),if_pos (show hd0 l=123 from q123)]
    rfl
  have hf0:0 < f:=by
   have:=hlen2.out
   cases hs:st1.getD [] with
   | nil=>rw[hs]at q123;simp[hd0]at q123
   | cons c r=>rw[hs]at this;simp only[List.length_cons]at this;omega
  go_wp2_with fail
  refine(object_st HW.out f IH.out _ b s st1 (by exact K2.out.1) (by exact K2.out.2.2.2) hb4 hf0 hlen2.out).mono ?_
  rintro e w3 ⟨t,st3,a7,a8,c7,c8,rfl,hv3,hst3,hr3,hg3⟩
  have HSTF:Hid (st.bind (valS (f+1))=st3.map (fun l=>(t,l))):=by
   show _=_
   rw[N.out,E.out,hst3]
  have HBX:BoxIs w3 w.heap.size (.int .i64 0) (.int .i64 0) (.string ⟨#[]⟩) (.slice none 0 0) (.slice none 0 0):=K2.out.2.2.1.grown hg3 (by simp;omega)
  have HVV:VIs w3 (fun k=>w.heap.size+1<=k) (f+1) t (.agg #[.int .i64 t.kind,.int .i64 t.n,.string ⟨t.s.toArray⟩,.slice a7 t.keys.length c7,.slice a8 t.l.length c8]):=hv3.weak (fun k hk=>by omega)
  have HGG:=gb_trans K2.out.2.1 hg3
  have HRR:=hr3
  have HST2:=HSTF.out
  clear hst3 hr3 hg3 hv3
  have FIN:=hidI (val_fin (f:=f) hbl HVV HST2 HRR HGG HBX)
  obtain⟨x0,x1,x2,x3,x4,y0,y1,y2,y3,y4⟩:=HBX.c
  obtain⟨z0,z1,z2,z3,z4,-⟩:=FIN.out.1.c
  clear HVV HST2 HRR HGG HBX
  have Z:Hid (_/\_/\_/\_/\_):=⟨z0,z1,z2,z3,z4⟩
  clear z0 z1 z2 z3 z4
  go_wp2_with fail
  obtain⟨z0,z1,z2,z3,z4⟩:=Z.out
  refine bodyPost_ret (v:=(.agg #[.int .i64 t.kind,.int .i64 t.n,.string ⟨t.s.toArray⟩,.slice a7 t.keys.length c7,.slice a8 t.l.length c8])) ?_ rfl ?_
  ·simp only[set5]at z0 z1 z2 z3 z4
   simp[results,Tryz.results63,go_sem,z0,z1,z2,z3,z4]
  ·exact⟨t,st3,a7,a8,c7,c8,rfl,FIN.out.2.1,HSTF.out,FIN.out.2.2.1,FIN.out.2.2.2⟩
 have n123:=hd_ne (m:=123) rfl q123
 have E:Hid (st1.bind (oneS (valS f))=(st1.bind numS).map fun p=>(leafV 2 p.1 [],p.2)):=by
  cases st1 with
  | none=>rfl
  | some l=>
   show oneS (valS f) l=_
   simp only[oneS,if_neg (show ¬hd0 l=110 from q110),if_neg (show ¬hd0 l=102 from q102),if_neg (show ¬hd0 l=116 from q116),if_neg (show ¬hd0 l=34 from q34),if_neg (show ¬hd0 l=91 from q91),if_neg (show ¬hd0 l=123 from q123)]
   rfl
 go_wp2_with fail
 refine(number_st _ b s st1 (by exact K2.out.1) (by exact K2.out.2.2.2) hb4).mono ?_
 rintro e w3 ⟨t,v,st3,rfl,⟨kk,nn,rfl,rfl,hkk,hnn⟩,hst3,hr3,hg3⟩
 have HSTF:Hid (st.bind (valS (f+1))=st3.map (fun l=>(leafV kk nn [],l))):=by show _=_;rw[N.out,E.out];exact hst3
 have HBX:BoxIs w3 w.heap.size (.int .i64 0) (.int .i64 0) (.string ⟨#[]⟩) (.slice none 0 0) (.slice none 0 0):=K2.out.2.2.1.grown hg3 (by simp;omega)
 have HVV:VIs w3 (fun k=>w.heap.size+1<=k) (f+1) (leafV kk nn []) (leaf kk nn []):=leaf_is _ _ f _ _ _ hkk hnn (by simp)
 have HGG:=gb_trans K2.out.2.1 hg3
 have HRR:=hr3
 have HST2:=HSTF.out
 clear hst3 hr3 hg3
 unfold leaf str
 have FIN:=hidI (val_fin (f:=f) (a7:=none) (a8:=none) (c7:=0) (c8:=0) hbl HVV HST2 HRR HGG HBX)
 obtain⟨x0,x1,x2,x3,x4,y0,y1,y2,y3,y4⟩:=HBX.c
 obtain⟨z0,z1,z2,z3,z4,-⟩:=(HBX.set (.int .i64 kk) (.int .i64 nn) (.string ⟨#[]⟩) (.slice none 0 0) (.slice none 0 0)).c
 clear HVV HST2 HRR HGG HBX
 have Z:Hid (_/\_/\_/\_/\_):=⟨z0,z1,z2,z3,z4⟩
 clear z0 z1 z2 z3 z4
 go_wp2_with fail
 obtain⟨z0,z1,z2,z3,z4⟩:=Z.out
 refine bodyPost_ret (v:=leaf kk nn []) ?_ rfl ?_
 ·simp only[set5]at z0 z1 z2 z3 z4
  simp[results,Tryz.results63,go_sem,z0,z1,z2,z3,z4,leaf,str]
 ·exact⟨leafV kk nn [],st3,none,none,0,0,rfl,FIN.out.2.1,HSTF.out,FIN.out.2.2.1,FIN.out.2.2.2⟩
theorem value_all (hW:WithC) (f:Nat):ValC f:=by
 induction f with
 | zero=>intro w b s st h hG hb4 hlen;omega
 | succ f ih=>exact value_succ hW f ih
end Go.Proofs.YtmdemcjmcnfjmaaGreatDoor
