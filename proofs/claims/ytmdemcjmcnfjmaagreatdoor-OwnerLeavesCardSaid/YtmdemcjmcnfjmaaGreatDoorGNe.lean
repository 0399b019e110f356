/- What the function that kept of package owner hands over does. -/
import Derived.Test.YtmdemcjmcnfjmaaGreatDoorGOt
import Derived.Test.YtmdemcjmcnfjmaaGreatDoorGOi
set_option linter.unusedSimpArgs false
set_option linter.unusedVariables false
namespace Go.Proofs.YtmdemcjmcnfjmaaGreatDoor
open Go.RowKit
structure CapI (w0:World) (ok ok':Nat->Prop) (who:List UInt8) (want t:V) (L:List (List UInt8)) (g2 g9 g4:Nat) (a1 a2 a3 b1 b2:Option Addr) (c1 c2 c3 d1 d2:Nat):Prop where
 who:w0.cell? ⟨g2,0,none⟩=some (.string ⟨who.toArray⟩)
 wish:w0.heap[g9]?=some (.cells #[.int .i64 want.kind,.int .i64 want.n,.string ⟨want.s.toArray⟩,.slice a1 want.keys.length c1,.slice a2 want.l.length c2,.slice a3 L.length c3] 53)
 val:BoxIs w0 g4 (.int .i64 t.kind) (.int .i64 t.n) (.string ⟨t.s.toArray⟩) (.slice b1 t.keys.length d1) (.slice b2 t.l.length d2)
 isWish:WishIs w0 ok want L (.agg #[.int .i64 want.kind,.int .i64 want.n,.string ⟨want.s.toArray⟩,.slice a1 want.keys.length c1,.slice a2 want.l.length c2,.slice a3 L.length c3])
 isVal:In w0 ok' t (.agg #[.int .i64 t.kind,.int .i64 t.n,.string ⟨t.s.toArray⟩,.slice b1 t.keys.length d1,.slice b2 t.l.length d2])
 glob:GlobM w0
 cnts:cnt t<=2000000000000
 rises:Rises L
 len:L.length < 4611686018427387904
theorem CapI.bel {w0 w1:World} {ok ok':Nat->Prop} {who:List UInt8} {want t:V} {L:List (List UInt8)} {g2 g9 g4:Nat} {a1 a2 a3 b1 b2:Option Addr} {c1 c2 c3 d1 d2:Nat} (h:CapI w0 ok ok' who want t L g2 g9 g4 a1 a2 a3 b1 b2 c1 c2 c3 d1 d2) (hb:Below w0.heap.size w0 w1):CapI w1 ok ok' who want t L g2 g9 g4 a1 a2 a3 b1 b2 c1 c2 c3 d1 d2:=
 ⟨cell_bel hb h.who,blk_bel hb h.wish,box_bel hb h.val,h.isWish.bel hb,h.isVal.bel hb,h.glob.bel hb,h.cnts,h.rises,h.len⟩
theorem CapI.blocked {w0:World} {ok ok':Nat->Prop} {who:List UInt8} {want t:V} {L:List (List UInt8)} {g2 g9 g4:Nat} {a1 a2 a3 b1 b2:Option Addr} {c1 c2 c3 d1 d2:Nat} (h:CapI w0 ok ok' who want t L g2 g9 g4 a1 a2 a3 b1 b2 c1 c2 c3 d1 d2) (p:List UInt8) (hp:p.length<=140737488351232) :
 Calls Tryz.prog 25 #[.agg #[.int .i64 want.kind,.int .i64 want.n,.string ⟨want.s.toArray⟩,.slice a1 want.keys.length c1,.slice a2 want.l.length c2,.slice a3 L.length c3],.agg #[.int .i64 t.kind,.int .i64 t.n,.string ⟨t.s.toArray⟩,.slice b1 t.keys.length d1,.slice b2 t.l.length d2],.string ⟨p.toArray⟩] w0 fun e w'=>e=.returned (.bool (blockedF want t L p))/\Below w0.heap.size w0 w':=
 blockedBy_at w0 ok ok' want t L _ _ p h.isWish h.isVal hp h.glob h.cnts h.rises h.len
theorem pick_snoc (who:List UInt8) (blk:List UInt8->Bool) (d:List (List UInt8 × List UInt8)) (n p:List UInt8):pick who blk (d++[(n,p)])=if (n != who&&blk p)=true then pick who blk d++[(n,p)] else pick who blk d:=by
 unfold pick
 rw[List.filter_append]
 cases h:(n != who&&blk p) with
 | true=>simp[h]
 | false=>simp[h]
set_option maxRecDepth 100000 in
set_option maxHeartbeats 4000000 in
theorem conf1_at (w0 W:World) (ok ok':Nat->Prop) (who:List UInt8) (want t:V) (L:List (List UInt8)) (g2 g9 g4:Nat) (a1 a2 a3 b1 b2:Option Addr) (c1 c2 c3 d1 d2 N:Nat) (d:List (List UInt8 × List UInt8)) (F:Nat->Prop) (n p:List UInt8)
 (hc:CapI w0 ok ok' who want t L g2 g9 g4 a1 a2 a3 b1 b2 c1 c2 c3 d1 d2) (hI:ConI w0 who (blockedF want t L) N d F W) (hN:d.length<=4000000) (hp:p.length<=140737488351232) :
 Calls Tryz.prog 49 #[.string ⟨n.toArray⟩,.string ⟨p.toArray⟩,.pointer (some ⟨g2,0,none⟩),.pointer (some ⟨g9,0,none⟩),.pointer (some ⟨g4,0,none⟩),.pointer (some ⟨w0.heap.size,0,none⟩)] W fun e w'=>e=.returned (.tuple #[])/\ConI w0 who (blockedF want t L) N (d++[(n,p)]) F w'/\W.heap.size<=w'.heap.size/\∀ k,F k->k < W.heap.size->w'.heap[k]?=W.heap[k]?:=by
 have C:=hidI (hc.bel hI.1.1)
 have HI:=hidI hI
 have PS:=hidI (pick_snoc who (blockedF want t L) d n p)
 have PL:Hid ((pick who (blockedF want t L) d).length<=4000000):=hidI (Nat.le_trans (List.length_filter_le _ _) hN)
 have BK:=hidI (C.out.blocked p hp)
 have q9:=C.out.who
 obtain⟨x0,x1,x2,x3,x4,x5⟩:=box6 C.out.wish
 obtain⟨y0,y1,y2,y3,y4,-⟩:=C.out.val.c
 clear hc hI
 by_cases hn:n=who
 ·have R:Hid (pick who (blockedF want t L) (d++[(n,p)])=pick who (blockedF want t L) d):=hidI (by rw[PS.out,if_neg (by simp[hn])])
  subst hn
  go_enter Tryz.func49,Tryz.ntmps49
  go_wp2_with fail
  go_end0
  exact⟨rfl,by unfold ConI;rw[R.out];exact HI.out,Nat.le_refl _,fun _ _ _=>rfl⟩
 ·have e3:Hid ((n != who)=true):=hidI (by simpa using hn)
  have e9:(n == who)=false:=by simpa using hn
  generalize hblk:blockedF want t L=blk at *
  clear hblk
  obtain⟨o,ho⟩:∃ o,blk p=o:=⟨_,rfl⟩
  rw[ho,e3.out]at PS
  rw[ho]at BK
  clear ho
  cases o with
  | false=>
   have R:Hid (pick who blk (d++[(n,p)])=pick who blk d):=hidI (by rw[PS.out];rfl)
   go_enter Tryz.func49,Tryz.ntmps49
   go_wp2_with (go_at_call 25;refine BK.out.mono ?_;rintro e w1 ⟨rfl,hb⟩;have B1:=hidI hb;clear hb)
   go_end0
   exact⟨rfl,by unfold ConI;rw[R.out];exact⟨HI.out.1.bel B1.out,fun k hk=>Nat.lt_of_lt_of_le (HI.out.2 k hk) B1.out.size⟩,B1.out.size,fun k hk hlt=>B1.out.block k hlt⟩
  | true=>
   have R:Hid (pick who blk (d++[(n,p)])=pick who blk d++[(n,p)]):=hidI (by rw[PS.out];rfl)
   go_enter Tryz.func49,Tryz.ntmps49
   go_upto_region 1 with (go_at_call 25;refine BK.out.mono ?_;rintro e w1 ⟨rfl,hb⟩;have B1:=hidI hb;clear hb)
   clear q9 x0 x1 x2 x3 x4 x5 y0 y1 y2 y3 y4
   have HI1:=hidI (HI.out.1.bel B1.out)
   have F1:Hid (∀ k,F k->k < w1.heap.size):=hidI (fun k hk=>Nat.lt_of_lt_of_le (HI.out.2 k hk) B1.out.size)
   obtain⟨r1,fv,r2,r3,r4⟩:=HI1.out
   obtain⟨PP,hPP⟩:∃ PP,pick who blk d=PP:=⟨_,rfl⟩
   rw[hPP]at r3 PL
   obtain⟨g7,c7,W7,hR,ho7,hg7,hf7⟩:=run_pushC (W:=w1.alloc (.cells #[.string ⟨n.toArray⟩,.string ⟨p.toArray⟩] 85)) (B:=w0.heap.size+1) (v:=fv) (n:=PP.length) (cs:=cCells PP) (nb:=w1.heap.size) (k:=⟨n.toArray⟩) (q:=⟨p.toArray⟩) (own_same r3 fun g hg=>(bel_alloc _ _).block g (own_lt r3 hg).2) (heap_alloc_new _ _) PL.out (by have:=(bel_alloc w1 (.cells #[.string ⟨n.toArray⟩,.string ⟨p.toArray⟩] 85)).size;have:=(Array.getElem?_eq_some_iff.1 r2).1;omega) 27
   have FIN:=hidI (acc_push r1 r2 r3 r4 ho7 hg7 hf7 F1.out)
   have HR:=hidI hR
   have hgl:w0.heap.size < w1.heap.size:=(Array.getElem?_eq_some_iff.1 r2).1
   have c0:w1.cell? ⟨w0.heap.size,0,none⟩=some fv:=by simp[World.cell?,r2]
   have c0a:∀ o,(w1.alloc o).cell? ⟨w0.heap.size,0,none⟩=some fv:=fun o=>cell_bel (bel_alloc _ _) c0
   have hb7:W7.heap[w0.heap.size]?=some (.cells #[fv] 27):=by
    rw[hg7.block _ (Nat.lt_of_lt_of_le hgl (bel_alloc w1 _).size) (fun e=>by have:=(own_lt r3 e.symm).1;omega),(bel_alloc w1 _).block _ hgl,r2]
   have c7a:W7.cell? ⟨w0.heap.size,0,none⟩=some fv:=by simp[World.cell?,hb7]
   have c7f:W7.frozen? ⟨w0.heap.size,0,none⟩=false:=by simp[World.frozen?,hb7]
   obtain⟨sa,sn,sc,hsv⟩:∃ sa sn sc,fv=.slice sa sn sc:=by
    rcases r3.2 with⟨h9,-⟩ | ⟨_,_,_,h9,-⟩
    ·exact⟨_,_,_,h9⟩
    ·exact⟨_,_,_,h9⟩
   subst hsv
   have HPP:=hidI hPP
   clear hPP r1 r2 r3 r4 hR ho7 hg7 hf7 hb7
   go_wp2_with (at_builtin;go_must (refine Lib.wpList_append_run _ rfl _ _ _ _ rfl (.slice sa sn sc) (.slice (some ⟨w1.heap.size,0,none⟩) 1 1) rfl rfl _ _ HR.out ?_);refine Hid.out ?_)
   refine hidI ?_
   go_wp2_with fail
   go_end0
   refine⟨rfl,⟨?_,fun k hk=>Nat.lt_of_lt_of_le (F1.out k hk) FIN.out.2.1⟩,Nat.le_trans B1.out.size FIN.out.2.1,fun k hk hlt=>?_⟩
   ·rw[R.out,HPP.out]
    have:=FIN.out.1
    simpa [cCells] using this
   ·rw[FIN.out.2.2 k hk (Nat.lt_of_lt_of_le hlt B1.out.size),B1.out.block k hlt]
theorem conf1_enters:∀ args w,(callFunc 49 args).run Tryz.prog w=.ok (.enter 49 args) w:=enters_of Tryz.func49 (by kernel_rfl) rfl
end Go.Proofs.YtmdemcjmcnfjmaaGreatDoor
namespace Go.Proofs.YtmdemcjmcnfjmaaGreatDoor
open Go.RowKit
def set6c (w:World) (g:Nat) (d0 d1 d2 d3 d4 d5:Value):World:=
 (((((w.setCell ⟨g,0,none⟩ d0).setCell ⟨g,1,none⟩ d1).setCell ⟨g,2,none⟩ d2).setCell ⟨g,3,none⟩ d3).setCell ⟨g,4,none⟩ d4).setCell ⟨g,5,none⟩ d5
theorem box6f {w:World} {g:Nat} {a b c d e f:Value} {t:TypeId} (h:w.heap[g]?=some (.cells #[a,b,c,d,e,f] t)):w.cell? ⟨g,0,none⟩=some a/\w.cell? ⟨g,1,none⟩=some b/\w.cell? ⟨g,2,none⟩=some c/\w.cell? ⟨g,3,none⟩=some d/\w.cell? ⟨g,4,none⟩=some e/\w.cell? ⟨g,5,none⟩=some f /\
 w.frozen? ⟨g,0,none⟩=false/\w.frozen? ⟨g,1,none⟩=false/\w.frozen? ⟨g,2,none⟩=false/\w.frozen? ⟨g,3,none⟩=false/\w.frozen? ⟨g,4,none⟩=false/\w.frozen? ⟨g,5,none⟩=false:=by
 refine⟨?_,?_,?_,?_,?_,?_,?_,?_,?_,?_,?_,?_⟩ <;> simp[World.cell?,World.frozen?,h]
theorem box6_set {w:World} {g:Nat} {a b c d e f:Value} {t:TypeId} (h:w.heap[g]?=some (.cells #[a,b,c,d,e,f] t)) (d0 d1 d2 d3 d4 d5:Value):(set6c w g d0 d1 d2 d3 d4 d5).heap[g]?=some (.cells #[d0,d1,d2,d3,d4,d5] t):=
 heap_set (heap_set (heap_set (heap_set (heap_set (heap_set h 0 d0) 1 d1) 2 d2) 3 d3) 4 d4) 5 d5
theorem set6c_gb (w:World) (g:Nat) (d0 d1 d2 d3 d4 d5:Value):w.grownBy (set6c w g d0 d1 d2 d3 d4 d5) (some g):=
 gb_set (gb_set (gb_set (gb_set (gb_set (gb_set (gb_refl _ _) _ _) _ _) _ _) _ _) _ _) _ _
theorem bel_set6c {w w1:World} {g:Nat} (h:Below w.heap.size w w1) (hg:w.heap.size<=g) (d0 d1 d2 d3 d4 d5:Value):Below w.heap.size w (set6c w1 g d0 d1 d2 d3 d4 d5):=by
 have k:=set6c_gb w1 g d0 d1 d2 d3 d4 d5
 exact⟨k.os.trans h.os,k.tape.trans h.tape,k.output.trans h.output,Nat.le_trans h.size k.size,fun i hi=>(k.block i (Nat.lt_of_lt_of_le hi h.size) (by simp;omega)).trans (h.block i hi)⟩
theorem wish_leaves {w W W2:World} {ok:Nat->Prop} {L:List (List UInt8)} {v:Value} {d0 d1 d2 d3 d4:Value} {T:TypeId} (h:StrsAre W (fun k=>W2.heap.size<=k) L v) (hs:((w.alloc (.cells #[d0,d1,d2,d3,d4] 25)).alloc (.cells #[.int .i64 0,.int .i64 0,.string ⟨#[]⟩,.slice none 0 0,.slice none 0 0,.slice none 0 0] 53)).heap.size<=W2.heap.size) {e0 e1 e2 e3 e4 e5:Value} (_:(set6c W (w.heap.size+1) e0 e1 e2 e3 e4 e5).heap[w.heap.size+1]?=some (.cells #[e0,e1,e2,e3,e4,e5] T)) :
 StrsAre (set6c W (w.heap.size+1) e0 e1 e2 e3 e4 e5) (okN ok w.heap.size) L v:=by
 refine h.imp fun a x h1 h2=>⟨.inr ?_,?_⟩
 ·simp at hs;omega
 ·rw[World.cell?_of_block ((set6c_gb W (w.heap.size+1) e0 e1 e2 e3 e4 e5).block _ (World.block_lt_of_cell? _ _ h2) (by simp at hs;simp;omega))];exact h2
attribute [local go_sem ↓] Go.wp_at_zero Go.wp_at_succ
set_option maxRecDepth 100000 in
set_option maxHeartbeats 4000000 in
theorem wishOf_at (w:World) (ok:Nat->Prop) (t:V) (v:Value) (h:In w ok t v) (hM:GlobM w) :
 Calls Tryz.prog 22 #[v] w fun e w'=>∃ r,e=.returned r/\WishIs w' (okN ok w.heap.size) t (leavesF t) r/\Below w.heap.size w w':=by
 have H:=hidI h.low
 have HM:=hidI hM
 obtain⟨a1,a2,c1,c2,rfl⟩:=h.form
 clear h hM
 have B2:Hid (Below w.heap.size w ((w.alloc (.cells #[.int .i64 t.kind,.int .i64 t.n,.string ⟨t.s.toArray⟩,.slice a1 t.keys.length c1,.slice a2 t.l.length c2] 25)).alloc (.cells #[.int .i64 0,.int .i64 0,.string ⟨#[]⟩,.slice none 0 0,.slice none 0 0,.slice none 0 0] 53))):=hidI (bel_trans (bel_alloc _ _) (bel_alloc _ _))
 have BV:Hid (BoxIs ((w.alloc (.cells #[.int .i64 t.kind,.int .i64 t.n,.string ⟨t.s.toArray⟩,.slice a1 t.keys.length c1,.slice a2 t.l.length c2] 25)).alloc (.cells #[.int .i64 0,.int .i64 0,.string ⟨#[]⟩,.slice none 0 0,.slice none 0 0,.slice none 0 0] 53)) w.heap.size (.int .i64 t.kind) (.int .i64 t.n) (.string ⟨t.s.toArray⟩) (.slice a1 t.keys.length c1) (.slice a2 t.l.length c2)):=hidI (h2a w _ _)
 have BZ:Hid (((w.alloc (.cells #[.int .i64 t.kind,.int .i64 t.n,.string ⟨t.s.toArray⟩,.slice a1 t.keys.length c1,.slice a2 t.l.length c2] 25)).alloc (.cells #[.int .i64 0,.int .i64 0,.string ⟨#[]⟩,.slice none 0 0,.slice none 0 0,.slice none 0 0] 53)).heap[w.heap.size+1]?=some (.cells #[.int .i64 0,.int .i64 0,.string ⟨#[]⟩,.slice none 0 0,.slice none 0 0,.slice none 0 0] 53)):=hidI (h2b w _ _)
 go_enter Tryz.func22,Tryz.ntmps22
 go_upto_region 1 with fail
 refine wp_region_T (fun wS=>Below ((w.alloc (.cells #[.int .i64 t.kind,.int .i64 t.n,.string ⟨t.s.toArray⟩,.slice a1 t.keys.length c1,.slice a2 t.l.length c2] 25)).alloc (.cells #[.int .i64 0,.int .i64 0,.string ⟨#[]⟩,.slice none 0 0,.slice none 0 0,.slice none 0 0] 53)).heap.size ((w.alloc (.cells #[.int .i64 t.kind,.int .i64 t.n,.string ⟨t.s.toArray⟩,.slice a1 t.keys.length c1,.slice a2 t.l.length c2] 25)).alloc (.cells #[.int .i64 0,.int .i64 0,.string ⟨#[]⟩,.slice none 0 0,.slice none 0 0,.slice none 0 0] 53)) wS) [4] (by kernel_rfl) (bel_drewN _ 1) (fun hHeld=>?_)
 refine WT.out ?_
 refine tk (i:=0) (d:=3) (v:=?_) [3,4] rfl rfl (by decide +kernel) rfl (fun _ _ _ h=>h) hHeld ?_ ?_
 rotate_left
 ·intro wS hSw
  obtain⟨u0,u1,u2,u3,u4,-⟩:=(box_bel hSw BV.out).c
  go_simp
  all_goals with_reducible rfl
 simp only[aput,List.set]
 refine tk (i:=1) (d:=4) (v:=?_) [2,3,4] rfl rfl (by decide +kernel) rfl (fun _ _ _ h=>h) hHeld ?_ ?_
 rotate_left
 ·intro wS hSw
  obtain⟨u0,u1,u2,u3,u4,-⟩:=(box_bel hSw BV.out).c
  go_simp
  all_goals with_reducible rfl
 simp only[aput,List.set]
 repeat' (first
  | exact nl
  |(refine cns (i:=2) (o:=_) rfl (fun K hK=>?_) ?_
    go_simp
    refine(leaves_at _ (fun k=>ok k/\k < w.heap.size) t _ (by exact(H.out.bel B2.out).bel hHeld) (by exact(HM.out.bel B2.out).bel hHeld)).mono ?_
    rintro e w2q ⟨a3,c3,rfl,hst,hb5⟩
    refine hK.out _ _ (bel_trans hHeld hb5) (fun hHeld2=>?_)
    have ST:=hidI hst
    have B5:=hidI hHeld2
    have HB5:=hidI hb5
    have HH:=hidI hHeld
    clear hb5 hst
    clear hK K
    replace hHeld:=hHeld2
    clear hHeld2
    try simp only[Act.put,List.setIfInBounds_toArray,List.set_cons_zero,List.set_cons_succ])
  |(refine lst (i:=4) (o:=_) (by decide +kernel) rfl (fun K hK=>?_)
    have ZB:=hidI (blk_bel hHeld BZ.out)
    obtain⟨n0,n1,n2,n3,n4,n5,m0,m1,m2,m3,m4,m5⟩:=box6f ZB.out
    have FIN:=hidI (box6_set ZB.out (.int .i64 t.kind) (.int .i64 t.n) (.string ⟨t.s.toArray⟩) (.slice a1 t.keys.length c1) (.slice a2 t.l.length c2) (.slice a3 (leavesF t).length c3))
    have FB:=hidI (bel_set6c (bel_trans B2.out hHeld) (Nat.le_succ w.heap.size) (.int .i64 t.kind) (.int .i64 t.n) (.string ⟨t.s.toArray⟩) (.slice a1 t.keys.length c1) (.slice a2 t.l.length c2) (.slice a3 (leavesF t).length c3))
    go_simp
    refine hK.out _ _ ?_
    clear hK K
    try simp only[Act.put,List.setIfInBounds_toArray,List.set_cons_zero,List.set_cons_succ])
  |(refine tk (i:=3) (d:=6) (v:=?_) [4] rfl rfl (by decide +kernel) rfl (fun _ _ _ h=>h) (by exact hHeld) ?_ ?_
    rotate_left
    ·intro wS hSw
     go_simp
     all_goals with_reducible rfl
    simp only[aput,List.set])
  | refine rdy [2] (by decide +kernel) ?_
  | fail)
 all_goals
  refine dn (by kernel_rfl) ?_
  clear n0 n1 n2 n3 n4 n5 m0 m1 m2 m3 m4 m5
  go_wp2_with fail
  obtain⟨z0,z1,z2,z3,z4,z5⟩:=box6 FIN.out
  refine bodyPost_ret (v:=.agg #[.int .i64 t.kind,.int .i64 t.n,.string ⟨t.s.toArray⟩,.slice a1 t.keys.length c1,.slice a2 t.l.length c2,.slice a3 (leavesF t).length c3]) ?_ rfl ?_
  ·simp only[set6c]at z0 z1 z2 z3 z4 z5
   simp[results,Tryz.results22,go_sem,z0,z1,z2,z3,z4,z5]
  ·refine⟨_,rfl,⟨a1,a2,a3,c1,c2,c3,rfl,?_,?_⟩,FB.out⟩
   ·exact(H.out.bel FB.out).weak fun k hk=>.inl hk.1
   ·exact wish_leaves ST.out HH.out.size FIN.out
end Go.Proofs.YtmdemcjmcnfjmaaGreatDoor
namespace Go.Proofs.YtmdemcjmcnfjmaaGreatDoor
open Go.RowKit
theorem leaves_rise (want:V):Rises (leavesF want)/\(leavesF want).length < 4611686018427387904:=by
 by_cases h:want.kind=5/\goodV want=true
 ·exact⟨(leaves_ok h.1 h.2).rises,wish_len h.1 h.2⟩
 ·have e:leavesF want=[]:=if_neg h
  rw[e];exact⟨List.Pairwise.nil,by simp⟩
noncomputable def confF (t:V) (l:List Own) (who:List UInt8) (want:V):List (List UInt8 × List UInt8):=if goodV t=true/\goodOs l=true then foundF (blockedF want t (leavesF want)) who l else []
theorem con_sees {w0:World} {ok okw okv:Nat->Prop} {who:List UInt8} {want t:V} {L:List (List UInt8)} {g2 g9 g4:Nat} {a1 a2 a3 b1 b2:Option Addr} {c1 c2 c3 d1 d2:Nat} {l:List Own} {vl:Value} (hc:CapI w0 okw okv who want t L g2 g9 g4 a1 a2 a3 b1 b2 c1 c2 c3 d1 d2)
 (hl:OwnsAre w0 ok l vl) (hok:∀ k,ok k->k < w0.heap.size) (hN:(allOf l).length<=4000000) (hP:∀ o∈l,∀ x∈o.paths,x.length<=140737488351232) :
 SeesP w0 49 #[.pointer (some ⟨g2,0,none⟩),.pointer (some ⟨g9,0,none⟩),.pointer (some ⟨g4,0,none⟩),.pointer (some ⟨w0.heap.size,0,none⟩)] l ok vl (ConI w0 who (blockedF want t L) 0) where
 owns:=hl
 cells d F W hI a x h1 h2:=(World.cell?_of_block (hI.1.1.block _ (hok _ h1))).trans h2
 alloc d F W o hI:=⟨hI.1.alloc o,fun k hk=>by
  have:W.heap.size < (W.alloc o).heap.size:=by simp
  rcases hk with hk | rfl
  ·have:=hI.2 k hk;omega
  ·exact this⟩
 low d F G W hI hg:=⟨hI.1.low hg,fun k hk=>hI.2 k (hg k hk)⟩
 step d F W n p hI hpre:=by
  have hm:(n,p)∈allOf l:=hpre.subset (by simp)
  obtain⟨o,ho,rfl,hp⟩:=allOf_mem hm
  have hlen:=hpre.length_le
  rw[List.length_append]at hlen
  exact conf1_at w0 W okw okv who want t L g2 g9 g4 a1 a2 a3 b1 b2 c1 c2 c3 d1 d2 0 d F o.name p hc hI (by omega) (hP o ho p hp)
set_option maxRecDepth 100000 in
set_option maxHeartbeats 4000000 in
theorem conflicts_at (w:World) (ok okl okw:Nat->Prop) (t want:V) (l:List Own) (who:List UInt8) (vt vl vw:Value) (ht:In w ok t vt) (hl:OwnsAre w okl l vl) (hw:In w okw want vw) (hM:GlobM w) (hN:(allOf l).length<=4000000) (hP:∀ o∈l,∀ x∈o.paths,x.length<=140737488351232) :
 Calls Tryz.prog 21 #[vt,vl,.string ⟨who.toArray⟩,vw] w fun e w'=>∃ r,e=.returned r/\w'.ownsRow w.heap.size 85 2 r (confF t l who want).length (cCells (confF t l who want))/\Below w.heap.size w w':=by
 have HT:=hidI ht.low
 have HL:=hidI hl.low
 have HW:=hidI hw.low
 have HM:=hidI hM
 have HN:=hidI hN
 have HP:=hidI hP
 obtain⟨b1,b2,d1,d2,rfl⟩:=ht.form
 obtain⟨a1,a2,c1,c2,rfl⟩:=hw.form
 obtain⟨la,lc,rfl⟩:=hl.form
 have ll:=hl.1
 unfold maxLen at ll
 clear ht hl hw hM hN hP
 obtain⟨W3,hW3⟩:∃ W,W=((w.alloc (.cells #[.int .i64 t.kind,.int .i64 t.n,.string ⟨t.s.toArray⟩,.slice b1 t.keys.length d1,.slice b2 t.l.length d2] 25)).alloc (.cells #[.string ⟨who.toArray⟩] 9)).alloc (.cells #[.int .i64 want.kind,.int .i64 want.n,.string ⟨want.s.toArray⟩,.slice a1 want.keys.length c1,.slice a2 want.l.length c2] 25):=⟨_,rfl⟩
 have BW:Hid (Below w.heap.size w W3):=hidI (by rw[hW3];exact bel_trans (bel_trans (bel_alloc _ _) (bel_alloc _ _)) (bel_alloc _ _))
 have X1:Hid (BoxIs W3 w.heap.size (.int .i64 t.kind) (.int .i64 t.n) (.string ⟨t.s.toArray⟩) (.slice b1 t.keys.length d1) (.slice b2 t.l.length d2)):=hidI (by rw[hW3];exact h3a _ _ _ _)
 have X2:Hid (W3.heap[w.heap.size+1]?=some (.cells #[.string ⟨who.toArray⟩] 9)):=hidI (by rw[hW3];exact h3b _ _ _ _)
 have X3:Hid (BoxIs W3 (w.heap.size+2) (.int .i64 want.kind) (.int .i64 want.n) (.string ⟨want.s.toArray⟩) (.slice a1 want.keys.length c1) (.slice a2 want.l.length c2)):=hidI (by rw[hW3];exact h3c _ _ _ _)
 have HW3:=hidI hW3
 clear hW3
 have GT:Hid (∀ W,Below w.heap.size w W->Calls Tryz.prog 13 #[.agg #[.int .i64 t.kind,.int .i64 t.n,.string ⟨t.s.toArray⟩,.slice b1 t.keys.length d1,.slice b2 t.l.length d2]] W fun e w'=>e=.returned (.bool (goodV t))/\Below W.heap.size W w'):=hidI (fun W hW=>good_is W _ t _ (HT.out.bel hW))
 have GO:Hid (∀ W,Below w.heap.size w W->Calls Tryz.prog 12 #[.slice la l.length lc] W fun e w'=>e=.returned (.bool (goodOs l))/\Below W.heap.size W w'):=hidI (fun W hW=>goodOwners_at W _ l _ (HL.out.bel hW) HP.out (HM.out.bel hW))
 obtain⟨p0,p1,p2,p3,p4,-⟩:=X1.out.c
 cases hgt:goodV t with
 | false=>
  have R:Hid (confF t l who want=[]):=hidI (if_neg (by rw[hgt];simp))
  rw[hgt]at GT
  clear hgt
  go_enter Tryz.func21,Tryz.ntmps21
  go_upto_region 1 with fail
  rw[<-HW3.out]
  go_wp2_with (go_at_call 13;refine(GT.out _ BW.out).mono ?_;rintro e w1 ⟨rfl,hb⟩;have B1:=hidI (bel_trans BW.out hb);clear hb)
  go_ret
  exact⟨_,rfl,by rw[R.out];exact World.ownsRow_nil _ _ _ _,B1.out⟩
 | true=>
  rw[hgt]at GT
  have HGT:=hidI hgt
  clear hgt
  cases hgo:goodOs l with
  | false=>
   have R:Hid (confF t l who want=[]):=hidI (if_neg (by rw[hgo];simp))
   rw[hgo]at GO
   clear hgo
   go_enter Tryz.func21,Tryz.ntmps21
   go_upto_region 1 with fail
   rw[<-HW3.out]
   go_wp2_with (first
    |(go_at_call 13;refine(GT.out _ BW.out).mono ?_;rintro e w1 ⟨rfl,hb⟩;have B1:=hidI (bel_trans BW.out hb);clear hb)
    |(go_at_call 12;refine(GO.out _ B1.out).mono ?_;rintro e w2 ⟨rfl,hb⟩;have B2:=hidI (bel_trans B1.out hb);clear hb))
   go_ret
   exact⟨_,rfl,by rw[R.out];exact World.ownsRow_nil _ _ _ _,B2.out⟩
  | true=>
   have R:Hid (confF t l who want=pick who (blockedF want t (leavesF want)) (allOf l)):=hidI (by rw[confF,if_pos ⟨HGT.out,hgo⟩,found_pick])
   rw[hgo]at GO
   clear hgo
   go_enter Tryz.func21,Tryz.ntmps21
   go_upto_region 1 with fail
   rw[<-HW3.out]
   go_upto_region 3 with (first
    |(go_at_call 13;refine(GT.out _ BW.out).mono ?_;rintro e w1 ⟨rfl,hb⟩;have B1:=hidI (bel_trans BW.out hb);have Y1:=hidI hb;clear hb)
    |(go_at_call 12;refine(GO.out _ B1.out).mono ?_;rintro e w2 ⟨rfl,hb⟩;have B2:=hidI (bel_trans B1.out hb);have Y2:=hidI (bel_trans Y1.out hb);clear hb))
   clear p0 p1 p2 p3 p4
   obtain⟨p0,p1,p2,p3,p4,-⟩:=(box_bel Y2.out X3.out).c
   have WO:=hidI (wishOf_at w2 (fun k=>okw k/\k < w.heap.size) want _ (by exact HW.out.bel B2.out) (HM.out.bel B2.out))
   go_upto_region 4 with (go_at_call 22;refine WO.out.mono ?_;rintro e w3 ⟨r,rfl,hwi,hb⟩;have B3:=hidI (bel_trans B2.out hb);have Y3:=hidI (bel_trans Y2.out hb);have WI:=hidI hwi;clear hb;obtain⟨x1,x2,x3,y1,y2,y3,rfl,-,-⟩:=hwi)
   clear p0 p1 p2 p3 p4
   obtain⟨W6,hW6⟩:∃ W,W=w3.alloc (.cells #[.int .i64 want.kind,.int .i64 want.n,.string ⟨want.s.toArray⟩,.slice x1 want.keys.length y1,.slice x2 want.l.length y2,.slice x3 (leavesF want).length y3] 53):=⟨_,rfl⟩
   have Y6:Hid (Below w3.heap.size w3 W6):=hidI (by rw[hW6];exact bel_alloc _ _)
   have X6:Hid (W6.heap[w3.heap.size]?=some (.cells #[.int .i64 want.kind,.int .i64 want.n,.string ⟨want.s.toArray⟩,.slice x1 want.keys.length y1,.slice x2 want.l.length y2,.slice x3 (leavesF want).length y3] 53)):=hidI (by rw[hW6];exact heap_alloc_new _ _)
   have B6:=hidI (bel_trans B3.out Y6.out)
   rw[<-hW6]
   clear hW6
   have CAP:Hid (CapI W6 (okN (fun k=>okw k/\k < w.heap.size) w2.heap.size) (fun k=>ok k/\k < w.heap.size) who want t (leavesF want) (w.heap.size+1) w3.heap.size w.heap.size x1 x2 x3 b1 b2 y1 y2 y3 d1 d2):=hidI ⟨by
    have h9:=blk_bel (bel_trans Y3.out Y6.out) X2.out
    simp[World.cell?,h9],X6.out,box_bel (bel_trans Y3.out Y6.out) X1.out,WI.out.bel Y6.out,HT.out.bel B6.out,HM.out.bel B6.out,by have:=nice_cnt (nice_of HGT.out);omega,(leaves_rise want).1,(leaves_rise want).2⟩
   have SEES:=hidI (con_sees CAP.out (HL.out.bel B6.out) (fun k hk=>by have:=B6.out.size;have h9:=hk.2;omega) HN.out HP.out)
   have CALL:=hidI (eachPath_at W6 (W6.alloc (.cells #[.slice none 0 0] 27)) _ l _ _ _ _ (fun k=>k < W6.heap.size) conf1_enters SEES.out ⟨by simpa [pick,cCells] using acc_start W6 27 85 2,fun k hk=>by simp;omega⟩)
   go_upto_region 6 with (go_at_call 48;refine CALL.out.mono ?_;rintro e w7 ⟨rfl,hi7⟩;have I7:=hidI hi7;clear hi7)
   obtain⟨r1,fv,r2,r3,r4⟩:=I7.out.1
   have c0:w7.cell? ⟨W6.heap.size,0,none⟩=some fv:=by simp[World.cell?,r2]
   obtain⟨sa,sn,sc,hsv⟩:∃ sa sn sc,fv=.slice sa sn sc:=by
    rcases r3.2 with⟨h9,-⟩ | ⟨_,_,_,h9,-⟩
    ·exact⟨_,_,_,h9⟩
    ·exact⟨_,_,_,h9⟩
   subst hsv
   have ROW:=hidI r3
   have BE:=hidI (B6.out.trans (r1.mono B6.out.size))
   have SZ6:=hidI B6.out.size
   clear r1 r2 r3 r4
   go_wp2_with fail
   go_ret
   exact⟨_,rfl,by rw[R.out];exact own_base ROW.out (by have:=SZ6.out;omega),BE.out⟩
end Go.Proofs.YtmdemcjmcnfjmaaGreatDoor
namespace Go.Proofs.YtmdemcjmcnfjmaaGreatDoor
open Go.RowKit
def addP (os:List Own) (n p:List UInt8):List Own:=
 match os.getLast? with
 | some o=>if o.name=n then os.dropLast++[⟨n,o.paths++[p]⟩] else os++[⟨n,[p]⟩]
 | none=>[⟨n,[p]⟩]
theorem addP_nil (n p:List UInt8):addP [] n p=[⟨n,[p]⟩]:=rfl
theorem addP_same (os:List Own) (o:Own) (p:List UInt8):addP (os++[o]) o.name p=os++[⟨o.name,o.paths++[p]⟩]:=by
 unfold addP;simp
theorem addP_new (os:List Own) (o:Own) (n p:List UInt8) (h:o.name≠n):addP (os++[o]) n p=(os++[o])++[⟨n,[p]⟩]:=by
 unfold addP;simp[h]
theorem addP_far {os:List Own} {n p:List UInt8} (h:∀ x∈os,x.name≠n):addP os n p=os++[⟨n,[p]⟩]:=by
 rcases List.eq_nil_or_concat os with rfl | ⟨r,o,rfl⟩
 ·rfl
 ·rw[List.concat_eq_append]at h ⊢;exact addP_new _ _ _ _ (h o (by simp))
def grpS (stays:List UInt8->List UInt8->Bool) (os:List Own) (c:List UInt8 × List UInt8):List Own:=if stays c.1 c.2=true then addP os c.1 c.2 else os
def grp (stays:List UInt8->List UInt8->Bool) (d:List (List UInt8 × List UInt8)):List Own:=d.foldl (grpS stays) []
theorem grp_snoc (stays:List UInt8->List UInt8->Bool) (d:List (List UInt8 × List UInt8)) (n p:List UInt8):grp stays (d++[(n,p)])=if stays n p=true then addP (grp stays d) n p else grp stays d:=by
 unfold grp;rw[List.foldl_append];rfl
theorem fold_own {stays:List UInt8->List UInt8->Bool} {os:List Own} {n:List UInt8} (h:∀ x∈os,x.name≠n):∀ (ps:List (List UInt8)),(ps.map fun p=>(n,p)).foldl (grpS stays) os=os++(if ps.filter (stays n)=[] then [] else [⟨n,ps.filter (stays n)⟩]):=by
 have key:∀ (k:Nat) (ps:List (List UInt8)),ps.length=k->(ps.map fun p=>(n,p)).foldl (grpS stays) os=os++(if ps.filter (stays n)=[] then [] else [⟨n,ps.filter (stays n)⟩]):=by
  intro k
  induction k with
  | zero=>intro ps hp;rw[List.length_eq_zero_iff.1 hp];simp
  | succ k ih=>
   intro ps hp
   rcases List.eq_nil_or_concat ps with rfl | ⟨r,p,rfl⟩
   ·simp at hp
   ·rw[List.concat_eq_append]at hp ⊢
    rw[List.map_append,List.foldl_append,ih r (by simpa using hp)]
    simp only[List.map_cons,List.map_nil,List.foldl_cons,List.foldl_nil,grpS,List.filter_append]
    cases hs:stays n p with
    | false=>simp[hs]
    | true=>
     simp only[if_true,hs,List.filter_cons_of_pos,List.filter_nil]
     by_cases hf:r.filter (stays n)=[]
     ·rw[if_pos hf,List.append_nil,addP_far h,hf];simp
     ·rw[if_neg hf]
      have:=addP_same os ⟨n,r.filter (stays n)⟩ p
      simp only at this
      rw[this];simp
 exact fun ps=>key _ ps rfl
theorem grp_kept {stays:List UInt8->List UInt8->Bool} {l:List Own} (h:Rises (l.map Own.name)):grp stays (allOf l)=keptF stays l:=by
 have key:∀ k,k<=l.length->grp stays (allOf (l.take k))=keptF stays (l.take k):=by
  intro k
  induction k with
  | zero=>intro _;simp[allOf,grp,keptF]
  | succ k ih=>
   intro hk
   have hlt:k < l.length:=by omega
   have hne:∀ x∈keptF stays (l.take k),x.name≠l[k].name:=by
    intro x hx
    obtain⟨y,hy,rfl,-⟩:=kept_in hx
    obtain⟨i,hi,rfl⟩:=List.getElem_of_mem hy
    rw[List.length_take]at hi
    rw[List.getElem_take]
    have:=List.pairwise_iff_getElem.1 h i k (by simp;omega) (by simpa using hlt) (by omega)
    rw[List.getElem_map,List.getElem_map]at this
    intro e
    rw[e,less_irrefl]at this;cases this
   rw[allOf_step hlt]
   unfold grp at ih ⊢
   rw[List.foldl_append,ih (by omega),fold_own hne,List.take_succ_eq_append_getElem hlt,kept_append]
   congr 1
   unfold keptF
   simp only[List.map_cons,List.map_nil]
   split
   ·rename_i hf;rw[hf];rfl
   ·rename_i hf
    rw[List.filter_cons_of_pos (by simpa using hf)];rfl
 have:=key l.length (Nat.le_refl _)
 rwa [List.take_length]at this
def oCells:List Own->List Value->List Value
 | o :: os,v :: vs=>.string ⟨o.name.toArray⟩ :: v :: oCells os vs
 | _,_=>[]
theorem oCells_snoc:∀ (os:List Own) (vs:List Value) (o:Own) (v:Value),os.length=vs.length->oCells (os++[o]) (vs++[v])=oCells os vs++[.string ⟨o.name.toArray⟩,v]
 | [],[],o,v,_=>rfl
 | [],_ :: _,o,v,h=>by simp at h
 | _ :: _,[],o,v,h=>by simp at h
 | o' :: os,v' :: vs,o,v,h=>by
  simp only[List.cons_append,oCells,oCells_snoc os vs o v (by simpa using h)]
theorem oCells_len:∀ (os:List Own) (vs:List Value),os.length=vs.length->(oCells os vs).length=os.length * 2
 | [],[],_=>rfl
 | [],_ :: _,h=>by simp at h
 | _ :: _,[],h=>by simp at h
 | o' :: os,v' :: vs,h=>by
  simp only[oCells,List.length_cons,oCells_len os vs (by simpa using h)];omega
def LastOk (w0 W:World) (init:List Own) (ov pl:Value) (pin:List Value):Option Own->Prop
 | none=>init=[]/\pl=.slice none 0 0/\W.ownsRow (w0.heap.size+1) 41 2 ov 0 []
 | some o=>W.ownsRow (w0.heap.size+1) 41 2 ov (init.length+1) (oCells (init++[o]) (pin++[pl]))/\W.ownsRow (w0.heap.size+1) 9 1 pl o.paths.length (o.paths.map encS)/\∀ x∈o.paths,x.length<=maxLen
structure KptI (w0:World) (init:List Own) (lastO:Option Own) (F:Nat->Prop) (W:World) (ov pl:Value) (pin:List Value) (Z:Nat->Prop):Prop where
 low:Below w0.heap.size w0 W
 box:W.heap[w0.heap.size]?=some (.cells #[ov] 26)
 plen:init.length=pin.length
 ini:∀ (i:Nat) (o:Own) (v:Value),init[i]?=some o->pin[i]?=some v->(∃ a c,v=.slice a o.paths.length c)/\StrsAre W Z o.paths v
 last:LastOk w0 W init ov pl pin lastO
 off:∀ (g:Nat),ov.ownBlock=some g->pl.ownBlock≠some g
 zlow:∀ (k:Nat),Z k->w0.heap.size+1<=k
 keep:∀ (k:Nat),(F k\/Z k)->k < W.heap.size/\k≠w0.heap.size/\some k≠ov.ownBlock/\some k≠pl.ownBlock
def KpI (w0:World) (os:List Own) (F:Nat->Prop) (W:World):Prop:=∃ init lastO ov pl pin Z,os=init++lastO.toList/\KptI w0 init lastO F W ov pl pin Z
theorem KptI.rows {w0:World} {init:List Own} {lastO:Option Own} {F:Nat->Prop} {W:World} {ov pl:Value} {pin:List Value} {Z:Nat->Prop} (h:KptI w0 init lastO F W ov pl pin Z):(∀ g,ov.ownBlock=some g->w0.heap.size+1<=g/\g < W.heap.size)/\(∀ g,pl.ownBlock=some g->w0.heap.size+1<=g/\g < W.heap.size):=by
 have hl:=h.last
 cases lastO with
 | none=>
  obtain⟨-,rfl,h2⟩:=hl
  exact⟨fun g hg=>own_lt h2 hg,fun g hg=>by cases hg⟩
 | some o=>exact⟨fun g hg=>own_lt hl.1 hg,fun g hg=>own_lt hl.2.1 hg⟩
theorem KptI.bel {w0:World} {init:List Own} {lastO:Option Own} {F:Nat->Prop} {W W':World} {ov pl:Value} {pin:List Value} {Z:Nat->Prop} (h:KptI w0 init lastO F W ov pl pin Z) (hb:Below W.heap.size W W'):KptI w0 init lastO F W' ov pl pin Z where
 low:=h.low.trans (hb.mono h.low.size)
 box:=blk_bel hb h.box
 plen:=h.plen
 ini i o v h1 h2:=⟨(h.ini i o v h1 h2).1,(h.ini i o v h1 h2).2.imp fun a x g1 g2=>⟨g1,cell_bel hb g2⟩⟩
 last:=by
  have hl:=h.last
  have hr:=h.rows
  cases lastO with
  | none=>exact⟨hl.1,hl.2.1,own_same hl.2.2 fun g hg=>hb.block g (hr.1 g hg).2⟩
  | some o=>exact⟨own_same hl.1 fun g hg=>hb.block g (hr.1 g hg).2,own_same hl.2.1 fun g hg=>hb.block g (hr.2 g hg).2,hl.2.2⟩
 off:=h.off
 zlow:=h.zlow
 keep k hk:=⟨Nat.lt_of_lt_of_le (h.keep k hk).1 hb.size,(h.keep k hk).2⟩
theorem KptI.alloc {w0:World} {init:List Own} {lastO:Option Own} {F:Nat->Prop} {W:World} {ov pl:Value} {pin:List Value} {Z:Nat->Prop} (h:KptI w0 init lastO F W ov pl pin Z) (o:Obj):KptI w0 init lastO (fun k=>F k\/k=W.heap.size) (W.alloc o) ov pl pin Z:=by
 have h2:=h.bel (bel_alloc W o)
 have hr:=h.rows
 refine { h2 with keep:=fun k hk=>?_ }
 rcases hk with (hk | rfl) | hk
 ·exact h2.keep k (.inl hk)
 ·have hbx:=(Array.getElem?_eq_some_iff.1 h.box).1
  exact⟨by simp,by omega,fun e=>by have:=(hr.1 _ e.symm).2;omega,fun e=>by have:=(hr.2 _ e.symm).2;omega⟩
 ·exact h2.keep k (.inr hk)
theorem KptI.lower {w0:World} {init:List Own} {lastO:Option Own} {F G:Nat->Prop} {W:World} {ov pl:Value} {pin:List Value} {Z:Nat->Prop} (h:KptI w0 init lastO F W ov pl pin Z) (hg:∀ k,G k->F k):KptI w0 init lastO G W ov pl pin Z:=
 { h with keep:=fun k hk=>h.keep k (hk.imp (hg k) id) }
theorem kpt_start (w0:World):KptI w0 [] none (fun k=>k < w0.heap.size) (w0.alloc (.cells #[.slice none 0 0] 26)) (.slice none 0 0) (.slice none 0 0) [] (fun _=>False) where
 low:=bel_alloc _ _
 box:=heap_alloc_new _ _
 plen:=rfl
 ini i o v h:=by simp at h
 last:=⟨rfl,rfl,World.ownsRow_nil _ _ _ _⟩
 off g hg:=by cases hg
 zlow k hk:=hk.elim
 keep k hk:=by
  rcases hk with hk | hk
  ·exact⟨by simp;omega,by omega,by simp[Value.ownBlock],by simp[Value.ownBlock]⟩
  ·exact hk.elim
end Go.Proofs.YtmdemcjmcnfjmaaGreatDoor
namespace Go.Proofs.YtmdemcjmcnfjmaaGreatDoor
open Go.RowKit
theorem own_cellset {w:World} {B:Nat} {e:TypeId} {size n cap g:Nat} {xs:List Value} (h:w.ownsRow B e size (.slice (some ⟨g,0,none⟩) n cap) n xs) (hn:0 < n) (i:Nat) (v:Value):(w.setCell ⟨g,i,none⟩ v).ownsRow B e size (.slice (some ⟨g,0,none⟩) n cap) n (xs.set i v):=by
 refine⟨by simpa using h.1,?_⟩
 rcases h.2 with⟨h0,-⟩ | ⟨g',cap',cur,e1,h1,h2,h3,h4,h5,h6⟩
 ·cases h0
 ·cases e1
  refine .inr ⟨g,cap,cur.setIfInBounds i v,rfl,h1,heap_set h2 i v,h3,h4,by simpa using h5,?_⟩
  rw[Array.toList_setIfInBounds,List.take_set,h6]
theorem oCells_last {init:List Own} {pin:List Value} {o o':Own} {pl pl':Value} (h:init.length=pin.length) (hn:o'.name=o.name):(oCells (init++[o]) (pin++[pl])).set (init.length * 2+1) pl'=oCells (init++[o']) (pin++[pl']):=by
 rw[oCells_snoc _ _ _ _ h,oCells_snoc _ _ _ _ h,hn,List.set_append_right _ _ (by rw[oCells_len _ _ h];omega),oCells_len _ _ h]
 rw[show init.length * 2+1 - init.length * 2=1 by omega]
 rfl
theorem encS_strs {w:World} {B:Nat} {ps:List (List UInt8)} {v:Value} {ok:Nat->Prop} (h:w.ownsRow B 9 1 v ps.length (ps.map encS)) (hl:∀ x∈ps,x.length<=maxLen) (hok:∀ g,v.ownBlock=some g->ok g):(∃ a c,v=.slice a ps.length c)/\StrsAre w ok ps v:=by
 rcases h.2 with⟨rfl,h0⟩ | ⟨g,cap,cur,rfl,h1,h2,h3,h4,h5,h6⟩
 ·have hL:ps=[]:=List.length_eq_zero_iff.1 h0
  subst hL
  exact⟨⟨none,0,rfl⟩,by simp[maxLen],.inl ⟨rfl,none,rfl⟩⟩
 ·refine⟨⟨_,_,rfl⟩,by omega,.inr ⟨g,0,cap,rfl,h3,h4,fun i x hx=>⟨hl x (List.mem_of_getElem? hx),hok g rfl,?_⟩⟩⟩
  obtain⟨hi,rfl⟩:=List.getElem?_eq_some_iff.1 hx
  have e:=congrArg (fun l=>l[i]?) h6
  simp only[Nat.mul_one,List.getElem?_take,List.getElem?_map,List.getElem?_eq_getElem hi,Option.map_some]at e
  rw[if_pos hi]at e
  have e2:cur[i]?=some (encS ps[i]):=by simpa using e
  simp[World.cell?,h2,e2,encS,str]
theorem kpt_new {w0:World} {init:List Own} {lastO:Option Own} {F:Nat->Prop} {wc W':World} {ov pl:Value} {pin:List Value} {Z:Nat->Prop} {ob:Obj} {n:List UInt8} {N g cap:Nat} {cells:List Value} (h:KptI w0 init lastO F wc ov pl pin Z)
 (hN:N=(init++lastO.toList).length) (hcs:cells=oCells (init++lastO.toList) (pin++(lastO.toList.map fun _=>pl)))
 (ho:W'.ownsRow (w0.heap.size+1) 41 2 (.slice (some ⟨g,0,none⟩) (N+1) cap) (N+1) (cells++[.string ⟨n.toArray⟩,.slice none 0 0])) (hg:(wc.alloc ob).grownBy W' ov.ownBlock) (hf:ov.ownBlock=some g\/(wc.alloc ob).heap.size=g) :
 KptI w0 (init++lastO.toList) (some ⟨n,[]⟩) F (W'.setCell ⟨w0.heap.size,0,none⟩ (.slice (some ⟨g,0,none⟩) (N+1) cap)) (.slice (some ⟨g,0,none⟩) (N+1) cap) (.slice none 0 0) (pin++(lastO.toList.map fun _=>pl)) (fun k=>Z k\/pl.ownBlock=some k) /\
  wc.heap.size<=(W'.setCell ⟨w0.heap.size,0,none⟩ (.slice (some ⟨g,0,none⟩) (N+1) cap)).heap.size/\∀ k,F k->k < wc.heap.size->(W'.setCell ⟨w0.heap.size,0,none⟩ (.slice (some ⟨g,0,none⟩) (N+1) cap)).heap[k]?=wc.heap[k]?:=by
 have ha:=bel_alloc wc ob
 have hr:=h.rows
 have hgo:=(own_lt ho (g:=g) rfl).1
 have hgl:w0.heap.size < wc.heap.size:=(Array.getElem?_eq_some_iff.1 h.box).1
 have hW:∀ k,k < wc.heap.size->some k≠ov.ownBlock->W'.heap[k]?=wc.heap[k]?:=fun k hk hn=>by
  rw[hg.block k (Nat.lt_of_lt_of_le hk ha.size) hn,ha.block k hk]
 have hbox:W'.heap[w0.heap.size]?=some (.cells #[ov] 26):=by
  rw[hW _ hgl (fun e=>by have:=(hr.1 _ e.symm).1;omega),h.box]
 obtain⟨W2,hW2⟩:∃ W,W=W'.setCell ⟨w0.heap.size,0,none⟩ (.slice (some ⟨g,0,none⟩) (N+1) cap):=⟨_,rfl⟩
 have hset:∀ k,k≠w0.heap.size->W2.heap[k]?=W'.heap[k]?:=fun k hk=>by rw[hW2];exact Below.heap_setCell W' ⟨w0.heap.size,0,none⟩ _ k hk
 have hsz:wc.heap.size<=W2.heap.size:=by
  have h1:=ha.size
  have h2:=hg.size
  rw[hW2]
  simp only[World.setCell,Array.size_modify]
  omega
 have hos:W2.os=W'.os/\W2.tape=W'.tape/\W2.output=W'.output:=by rw[hW2];exact⟨rfl,rfl,rfl⟩
 have hfix:∀ k,k < wc.heap.size->k≠w0.heap.size->some k≠ov.ownBlock->W2.heap[k]?=wc.heap[k]?:=fun k h1 h2 h3=>by rw[hset k h2,hW k h1 h3]
 have hlo:Below w0.heap.size w0 W2:=⟨by rw[hos.1,hg.os,ha.os,h.low.os],by rw[hos.2.1,hg.tape,ha.tape,h.low.tape],by rw[hos.2.2,hg.output,ha.output,h.low.output],Nat.le_trans h.low.size hsz,fun k hk=>by rw[hfix k (by omega) (by omega) (fun e=>by have:=(hr.1 _ e.symm).1;omega),h.low.block k hk]⟩
 have hb2:W2.heap[w0.heap.size]?=some (.cells #[.slice (some ⟨g,0,none⟩) (N+1) cap] 26):=by rw[hW2];exact heap_set hbox 0 _
 rw[<-hW2]
 have hpn:(init++lastO.toList).length=(pin++(lastO.toList.map fun _=>pl)).length:=by simp[h.plen]
 have hgf:∀ k,k < wc.heap.size->some k≠ov.ownBlock->k≠g:=fun k hk hne e=>by
  rcases hf with hf | hf
  ·exact hne (by rw[hf,e])
  ·have:=ha.size;omega
 refine⟨{ low:=hlo,box:=hb2,plen:=hpn,ini:=fun i o v h1 h2=>?_,last:=?_,off:=fun g' hg'=>by simp[Value.ownBlock],zlow:=fun k hk=>hk.elim (h.zlow k) (fun e=>(hr.2 k e).1),keep:=fun k hk=>?_ },hsz,fun k hk hlt=>?_⟩
 ·by_cases hi:i < init.length
  ·rw[List.getElem?_append_left hi]at h1
   rw[List.getElem?_append_left (by rw[<-h.plen];exact hi)]at h2
   obtain⟨g1,g2⟩:=h.ini i o v h1 h2
   refine⟨g1,g2.imp fun a x q1 q2=>⟨.inl q1,?_⟩⟩
   have hk:=h.keep a.block (.inr q1)
   exact(World.cell?_of_block (hfix _ hk.1 hk.2.1 hk.2.2.1)).trans q2
  ·rw[List.getElem?_append_right (by omega)]at h1
   rw[List.getElem?_append_right (by rw[<-h.plen];omega)]at h2
   have hl:=h.last
   cases lastO with
   | none=>simp at h1
   | some o9=>
    rw[<-h.plen]at h2
    cases h8:i - init.length with
    | succ m=>rw[h8]at h1;simp at h1
    | zero=>
     rw[h8]at h1 h2
     simp at h1 h2
     subst h1;subst h2
     refine encS_strs (own_same hl.2.1 fun g' hg'=>?_) hl.2.2 fun g' hg'=>.inr hg'
     exact hfix _ (hr.2 _ hg').2 (fun e=>by have:=(hr.2 _ hg').1;omega) (fun e=>h.off g' e.symm hg')
 ·refine⟨?_,⟨rfl,.inl ⟨rfl,rfl⟩⟩,fun x hx=>by cases hx⟩
  rw[oCells_snoc _ _ _ _ hpn,<-hcs,<-hN]
  refine own_same ho fun g' hg'=>hset g' ?_
  have e9:g=g':=by simpa [Value.ownBlock] using hg'
  omega
 ·rcases hk with hk | hk | hk
  ·have h9:=h.keep k (.inl hk)
   exact⟨Nat.lt_of_lt_of_le h9.1 hsz,h9.2.1,by have:=hgf k h9.1 h9.2.2.1;simp[Value.ownBlock];omega,by simp[Value.ownBlock]⟩
  ·have h9:=h.keep k (.inr hk)
   exact⟨Nat.lt_of_lt_of_le h9.1 hsz,h9.2.1,by have:=hgf k h9.1 h9.2.2.1;simp[Value.ownBlock];omega,by simp[Value.ownBlock]⟩
  ·have h9:=hr.2 k hk
   have h8:some k≠ov.ownBlock:=fun e=>h.off k e.symm hk
   exact⟨Nat.lt_of_lt_of_le h9.2 hsz,by omega,by have:=hgf k h9.2 h8;simp[Value.ownBlock];omega,by simp[Value.ownBlock]⟩
 ·have h9:=h.keep k (.inl hk)
  exact hfix k h9.1 h9.2.1 h9.2.2.1
theorem kpt_path {w0:World} {init:List Own} {o:Own} {F:Nat->Prop} {wc W':World} {gb ocap:Nat} {pl:Value} {pin:List Value} {Z:Nat->Prop} {ob:Obj} {p:List UInt8} {g cap:Nat} (h:KptI w0 init (some o) F wc (.slice (some ⟨gb,0,none⟩) (init.length+1) ocap) pl pin Z) (hp:p.length<=maxLen)
 (ho:W'.ownsRow (w0.heap.size+1) 9 1 (.slice (some ⟨g,0,none⟩) (o.paths.length+1) cap) (o.paths.length+1) (o.paths.map encS++[.string ⟨p.toArray⟩])) (hg:(wc.alloc ob).grownBy W' pl.ownBlock) (hf:pl.ownBlock=some g\/(wc.alloc ob).heap.size=g) :
 KptI w0 init (some ⟨o.name,o.paths++[p]⟩) F (W'.setCell ⟨gb,init.length * 2+1,none⟩ (.slice (some ⟨g,0,none⟩) (o.paths.length+1) cap)) (.slice (some ⟨gb,0,none⟩) (init.length+1) ocap) (.slice (some ⟨g,0,none⟩) (o.paths.length+1) cap) pin Z /\
  wc.heap.size<=(W'.setCell ⟨gb,init.length * 2+1,none⟩ (.slice (some ⟨g,0,none⟩) (o.paths.length+1) cap)).heap.size/\∀ k,F k->k < wc.heap.size->(W'.setCell ⟨gb,init.length * 2+1,none⟩ (.slice (some ⟨g,0,none⟩) (o.paths.length+1) cap)).heap[k]?=wc.heap[k]?:=by
 have ha:=bel_alloc wc ob
 have hr:=h.rows
 have hgb:=hr.1 gb rfl
 have hgo:=own_lt ho (g:=g) rfl
 obtain⟨l1,l2,l3⟩:=h.last
 have hgl:w0.heap.size < wc.heap.size:=(Array.getElem?_eq_some_iff.1 h.box).1
 have hW:∀ k,k < wc.heap.size->some k≠pl.ownBlock->W'.heap[k]?=wc.heap[k]?:=fun k hk hn=>by
  rw[hg.block k (Nat.lt_of_lt_of_le hk ha.size) hn,ha.block k hk]
 have hgne:g≠gb:=fun e=>by
  rcases hf with hf | hf
  ·exact h.off gb rfl (by rw[hf,e])
  ·have:=ha.size;omega
 have l1':W'.ownsRow (w0.heap.size+1) 41 2 (.slice (some ⟨gb,0,none⟩) (init.length+1) ocap) (init.length+1) (oCells (init++[o]) (pin++[pl])):=own_same l1 fun g' hg'=>by
  have e9:gb=g':=by simpa [Value.ownBlock] using hg'
  subst e9
  exact hW gb hgb.2 (fun e=>h.off gb rfl e.symm)
 have l1'':=own_cellset l1' (by omega) (init.length * 2+1) (.slice (some ⟨g,0,none⟩) (o.paths.length+1) cap)
 rw[oCells_last (o:=o) (o':=⟨o.name,o.paths++[p]⟩) h.plen rfl]at l1''
 obtain⟨W2,hW2⟩:∃ W,W=W'.setCell ⟨gb,init.length * 2+1,none⟩ (.slice (some ⟨g,0,none⟩) (o.paths.length+1) cap):=⟨_,rfl⟩
 rw[<-hW2]at l1'' ⊢
 have hset:∀ k,k≠gb->W2.heap[k]?=W'.heap[k]?:=fun k hk=>by rw[hW2];exact Below.heap_setCell W' ⟨gb,init.length * 2+1,none⟩ _ k hk
 have hsz:wc.heap.size<=W2.heap.size:=by
  have h1:=ha.size
  have h2:=hg.size
  rw[hW2]
  simp only[World.setCell,Array.size_modify]
  omega
 have hos:W2.os=W'.os/\W2.tape=W'.tape/\W2.output=W'.output:=by rw[hW2];exact⟨rfl,rfl,rfl⟩
 have hfix:∀ k,k < wc.heap.size->k≠gb->some k≠pl.ownBlock->W2.heap[k]?=wc.heap[k]?:=fun k h1 h2 h3=>by rw[hset k h2,hW k h1 h3]
 have hgf:∀ k,k < wc.heap.size->some k≠pl.ownBlock->k≠g:=fun k hk hne e=>by
  rcases hf with hf | hf
  ·exact hne (by rw[hf,e])
  ·have:=ha.size;omega
 refine⟨{ low:=⟨by rw[hos.1,hg.os,ha.os,h.low.os],by rw[hos.2.1,hg.tape,ha.tape,h.low.tape],by rw[hos.2.2,hg.output,ha.output,h.low.output],Nat.le_trans h.low.size hsz,fun k hk=>by rw[hfix k (by omega) (by omega) (fun e=>by have:=(hr.2 _ e.symm).1;omega),h.low.block k hk]⟩,box:=?_,plen:=h.plen,ini:=fun i o v h1 h2=>?_,last:=?_,off:=fun g' hg'=>?_,zlow:=h.zlow,keep:=fun k hk=>?_ },hsz,fun k hk hlt=>?_⟩
 ·rw[hfix _ hgl (by omega) (fun e=>by have:=(hr.2 _ e.symm).1;omega)];exact h.box
 ·obtain⟨g1,g2⟩:=h.ini i o v h1 h2
  refine⟨g1,g2.imp fun a x q1 q2=>⟨q1,?_⟩⟩
  have hk:=h.keep a.block (.inr q1)
  exact(World.cell?_of_block (hfix _ hk.1 (fun e=>hk.2.2.1 (by rw[e];rfl)) hk.2.2.2)).trans q2
 ·refine⟨l1'',?_,fun x hx=>?_⟩
  ·have:W'.ownsRow (w0.heap.size+1) 9 1 (.slice (some ⟨g,0,none⟩) (o.paths.length+1) cap) (o.paths++[p]).length ((o.paths++[p]).map encS):=by simpa [encS] using ho
   refine own_same this fun g' hg'=>hset g' ?_
   have e9:g=g':=by simpa [Value.ownBlock] using hg'
   omega
  ·rcases List.mem_append.1 hx with hx | hx
   ·exact l3 x hx
   ·rw[List.mem_singleton]at hx;rw[hx];exact hp
 ·have e9:gb=g':=by simpa [Value.ownBlock] using hg'
  simp[Value.ownBlock];omega
 ·have h9:=h.keep k hk
  exact⟨Nat.lt_of_lt_of_le h9.1 hsz,h9.2.1,h9.2.2.1,by have:=hgf k h9.1 h9.2.2.2;simp[Value.ownBlock];omega⟩
 ·have h9:=h.keep k (.inl hk)
  exact hfix k h9.1 (fun e=>h9.2.2.1 (by rw[e];rfl)) h9.2.2.2
end Go.Proofs.YtmdemcjmcnfjmaaGreatDoor
namespace Go.Proofs.YtmdemcjmcnfjmaaGreatDoor
open Go.RowKit
theorem step_run2 {w:World} {ops:Array Oper} {o:Oper} {a:Act} {K:Act->World->Prop} {Q:Exit->Act->World->Prop} {E:Prop} (hgd:o.guard=none) (s x:Operand) (t:TypeId) (ho:o.op=.call { callee:=.builtin .append,args:=#[s,x],argTypes:=#[t,t] })
 (v u:Value) (hs:a.eval s=v) (hx:a.eval x=u) (R:Value->World->Prop) (hr:∀ ty,∃ v' w',(Builtin.append_ #[t,t] ty #[v,u]).run Tryz.prog w=.ok v' w'/\R v' w') (hK:∀ v' w',R v' w'->K (a.put o.dst v') w') :
 if Region.wanted o (yielded ops a.tmps)=true then Oper.wp Tryz.prog o a w K Q else E:=by
 have hw:Region.wanted o (yielded ops a.tmps)=true:=by simp[Region.wanted,hgd]
 rw[if_pos hw]
 obtain⟨v',w',h1,h2⟩:=hr o.type
 unfold Oper.wp execOp
 simp only[ho,resolve,invoke,builtin,Sem.run_bind,Sem.run_pure,Result.andThen_ok,List.map_toArray,List.map_cons,List.map_nil,hs,hx,h1]
 exact hK v' w' h2
theorem own_heap {w w':World} {B:Nat} {e:TypeId} {size n:Nat} {v:Value} {xs:List Value} (h:w.ownsRow B e size v n xs) (hh:w'.heap=w.heap):w'.ownsRow B e size v n xs:=own_same h fun g _=>by rw[hh]
theorem push_reg {wq W:World} {B:Nat} {v:Value} {n:Nat} {cs:List Value} {k:ByteArray} (hh:W.heap=(wq.alloc (.cells #[.string k] 9)).heap) (h1:W.os=wq.os) (h2:W.tape=wq.tape) (h3:W.output=wq.output) (ho:wq.ownsRow B 9 1 v n cs) (hn:n<=4000000) (hB:B<=wq.heap.size) (ty:TypeId) :
 ∃ v' w',(Builtin.append_ #[22,22] ty #[v,.slice (some ⟨wq.heap.size,0,none⟩) 1 1]).run Tryz.prog W=.ok v' w'/\(∃ g cap,v'=.slice (some ⟨g,0,none⟩) (n+1) cap/\w'.ownsRow B 9 1 (.slice (some ⟨g,0,none⟩) (n+1) cap) (n+1) (cs++[.string k])/\(wq.alloc (.cells #[.string k] 9)).grownBy w' v.ownBlock/\(v.ownBlock=some g\/(wq.alloc (.cells #[.string k] 9)).heap.size=g)):=by
 obtain⟨i0,hi,hz0,hz1,hz2⟩:=info_parts info9
 have hnb:W.heap[wq.heap.size]?=some (.cells #[.string k] 9):=by rw[hh];exact heap_alloc_new _ _
 have hoW:W.ownsRow B 9 1 v n cs:=own_heap (own_same ho fun g hg=>(bel_alloc wq (.cells #[.string k] 9)).block g (own_lt ho hg).2) hh
 obtain⟨g,cap,W',hr,g1,g2,g3,-⟩:=run_append_lies (P:=Tryz.prog) W 22 ty B 9 i0 _ 1 16 Tryz.underlying22 hi hz0 hz1 hz2 rfl (by decide) v n cs hoW ⟨wq.heap.size,0,none⟩ 1 1 [.string k] rfl
  (World.news_of_block (cs:=#[.string k]) hnb) (by intro u hu;simp only[List.mem_cons,List.not_mem_nil,or_false]at hu;subst hu;rfl) (by decide) (by unfold maxLen;omega) (by omega) (by rw[hh];have:=(bel_alloc wq (.cells #[.string k] 9)).size;omega) W.heap.size rfl
 exact⟨_,W',hr,g,cap,rfl,g1,⟨g2.os.trans h1,g2.tape.trans h2,g2.output.trans h3,by rw[<-hh];exact g2.size,fun i hi hr=>by rw[<-hh]at hi ⊢;exact g2.block i hi hr⟩,g3.imp id fun e=>by rw[<-hh];exact e.symm⟩
theorem own_cellat {w:World} {B:Nat} {e:TypeId} {size n cap g:Nat} {xs:List Value} (h:w.ownsRow B e size (.slice (some ⟨g,0,none⟩) n cap) n xs) (hn:0 < n) {i:Nat} {v:Value} (hi:xs[i]?=some v):w.cell? ⟨g,i,none⟩=some v/\w.frozen? ⟨g,i,none⟩=false:=by
 rcases h.2 with⟨h0,-⟩ | ⟨g',cap',cur,e1,h1,h2,h3,h4,h5,h6⟩
 ·cases h0
 ·cases e1
  have e9:=congrArg (fun l=>l[i]?) h6
  simp only[hi,List.getElem?_take]at e9
  split at e9
  ·have:cur[i]?=some v:=by simpa using e9
   exact⟨by simp[World.cell?,h2,this],by simp[World.frozen?,h2]⟩
  ·cases e9
theorem kpt_cells {w0:World} {init:List Own} {o:Own} {F:Nat->Prop} {W:World} {gb oc:Nat} {pl:Value} {pin:List Value} {Z:Nat->Prop} (h:KptI w0 init (some o) F W (.slice (some ⟨gb,0,none⟩) (init.length+1) oc) pl pin Z) :
 W.cell? ⟨gb,init.length * 2+1,none⟩=some pl/\W.cell? ⟨gb,init.length * 2,none⟩=some (.string ⟨o.name.toArray⟩):=by
 have hl:=h.last.1
 have hlen:=oCells_len init pin h.plen
 refine⟨(own_cellat hl (by omega) ?_).1,(own_cellat hl (by omega) ?_).1⟩
 ·rw[oCells_snoc _ _ _ _ h.plen,List.getElem?_append_right (by omega),hlen,show init.length * 2+1 - init.length * 2=1 by omega];rfl
 ·rw[oCells_snoc _ _ _ _ h.plen,List.getElem?_append_right (by omega),hlen,Nat.sub_self];rfl
theorem kpt_cell {w0:World} {init:List Own} {o:Own} {F:Nat->Prop} {W W9:World} {ob:Obj} {gb oc:Nat} {pl:Value} {pin:List Value} {Z:Nat->Prop} (h:KptI w0 init (some o) F W (.slice (some ⟨gb,0,none⟩) (init.length+1) oc) pl pin Z) (hg:(W.alloc ob).grownBy W9 pl.ownBlock) :
 W9.cell? ⟨gb,init.length * 2+1,none⟩=some pl/\W9.frozen? ⟨gb,init.length * 2+1,none⟩=false:=by
 have hl:=h.last.1
 have hr:=h.rows.1 gb rfl
 have hlen:=oCells_len init pin h.plen
 refine own_cellat (own_same hl fun g' hg'=>?_) (by omega) ?_
 ·have e9:gb=g':=by simpa [Value.ownBlock] using hg'
  subst e9
  have ha:=bel_alloc W ob
  rw[hg.block gb (Nat.lt_of_lt_of_le hr.2 ha.size) (fun e=>h.off gb rfl e.symm),ha.block gb hr.2]
 ·rw[oCells_snoc _ _ _ _ h.plen,List.getElem?_append_right (by omega),hlen,show init.length * 2+1 - init.length * 2=1 by omega];rfl
theorem kpt_form {w0:World} {init:List Own} {o:Own} {F:Nat->Prop} {W:World} {ov pl:Value} {pin:List Value} {Z:Nat->Prop} (h:KptI w0 init (some o) F W ov pl pin Z):∃ gb oc,ov=.slice (some ⟨gb,0,none⟩) (init.length+1) oc:=by
 rcases h.last.1.2 with⟨-,h0⟩ | ⟨g,cap,cur,e,-⟩
 ·omega
 ·exact⟨g,cap,e⟩
attribute [local go_sem ↓] Go.wp_at_zero Go.wp_at_succ
set_option maxRecDepth 100000 in
set_option maxHeartbeats 8000000 in
theorem kept1_at (w0 W:World) (gs g:Nat) (lb:Array Value) (stays:List UInt8->List UInt8->Bool) (os:List Own) (F:Nat->Prop) (n p:List UInt8) (eg:∀ args w,(callFunc g args).run Tryz.prog w=.ok (.enter g args) w) (hI:KpI w0 os F W) (hgs:w0.cell? ⟨gs,0,none⟩=some (.func (.func g) #[] lb)) (hp:p.length<=maxLen)
 (hst:Calls Tryz.prog g (#[.string ⟨n.toArray⟩,.string ⟨p.toArray⟩]++lb) W fun e w'=>e=.returned (.bool (stays n p))/\Below W.heap.size W w') (hN:os.length<=4000000) (hP:∀ o∈os,o.paths.length<=4000000) :
 Calls Tryz.prog 50 #[.string ⟨n.toArray⟩,.string ⟨p.toArray⟩,.pointer (some ⟨gs,0,none⟩),.pointer (some ⟨w0.heap.size,0,none⟩)] W fun e w'=>e=.returned (.tuple #[])/\KpI w0 (if stays n p=true then addP os n p else os) F w'/\W.heap.size<=w'.heap.size/\∀ k,F k->k < W.heap.size->w'.heap[k]?=W.heap[k]?:=by
 obtain⟨init,lastO,ov,pl,pin,Z,hos,hK⟩:=hI
 have PLX:=hidI hp
 have c0:=cell_bel hK.low hgs
 have KK:=hidI hK
 have ST:=hidI hst
 clear hK hgs hp hst
 obtain⟨b,hb⟩:∃ b,stays n p=b:=⟨_,rfl⟩
 rw[hb]at ST ⊢
 clear hb
 cases b with
 | false=>
  go_enter Tryz.func50,Tryz.ntmps50
  go_wp2_with (go_at_fn g;refine ST.out.mono ?_;rintro e w1 ⟨rfl,hb⟩;have B1:=hidI hb;clear hb)
  try simp only[Exit.inBlock,Exit.then]
  refine bodyPost_ret (results_none rfl _ _ _) rfl ?_
  exact⟨rfl,⟨init,lastO,ov,pl,pin,Z,(by first | rfl | (simp[hos])),KK.out.bel B1.out⟩,B1.out.size,fun k hk hlt=>B1.out.block k hlt⟩
 | true=>
  rw[if_pos rfl]
  go_enter Tryz.func50,Tryz.ntmps50
  go_upto_region 1 with (go_at_fn g;refine ST.out.mono ?_;rintro e w1 ⟨rfl,hb⟩;have B1:=hidI hb;clear hb)
  clear c0
  have K1:=hidI (KK.out.bel B1.out)
  have c1:w1.cell? ⟨w0.heap.size,0,none⟩=some ov:=by have h9:=K1.out.box;simp[World.cell?,h9]
  have FR:Hid (∀ w',KpI w0 (addP os n p) F w'/\w1.heap.size<=w'.heap.size/\(∀ k,F k->k < w1.heap.size->w'.heap[k]?=w1.heap[k]?)->KpI w0 (addP os n p) F w'/\W.heap.size<=w'.heap.size/\∀ k,F k->k < W.heap.size->w'.heap[k]?=W.heap[k]?):=hidI (fun w' h=>⟨h.1,Nat.le_trans B1.out.size h.2.1,fun k hk hlt=>by rw[h.2.2 k hk (Nat.lt_of_lt_of_le hlt B1.out.size),B1.out.block k hlt]⟩)
  clear KK B1
  cases lastO with
  | none=>
   obtain⟨hin,hpl,hrow⟩:=K1.out.last
   subst hin
   subst hpl
   have hpn:pin=[]:=List.length_eq_zero_iff.1 K1.out.plen.symm
   subst hpn
   have hoe:os=[]:=by simpa using hos
   obtain⟨oa,oc,hov⟩:∃ oa oc,ov=.slice oa 0 oc:=by
    rcases hrow.2 with⟨h9,-⟩ | ⟨g9,c9,_,h9,-⟩
    ·exact⟨_,_,h9⟩
    ·exact⟨_,_,h9⟩
   subst hov
   have ADD:Hid (addP os n p=[⟨n,[]++[p]⟩]):=hidI (by rw[hoe];rfl)
   have PLN:Hid ((([]:List (List UInt8))).length<=4000000):=hidI (by simp)
   clear hos hP hN hoe
   obtain⟨g7,c7,W7,hR,ho7,hg7,hf7⟩:=run_pushO (W:=w1.alloc (.cells #[.string ⟨n.toArray⟩,.slice none 0 0] 41)) (B:=w0.heap.size+1) (v:=.slice oa 0 oc) (n:=0) (cs:=[]) (nb:=w1.heap.size) (k:=⟨n.toArray⟩) (pa:=none) (pn:=0) (pc:=0) (own_same hrow fun g hg=>(bel_alloc _ _).block g (own_lt hrow hg).2) (heap_alloc_new _ _) (by omega) (by have:=(bel_alloc w1 (.cells #[.string ⟨n.toArray⟩,.slice none 0 0] 41)).size;have:=(Array.getElem?_eq_some_iff.1 K1.out.box).1;omega) 26
   have KN:=hidI (kpt_new (n:=n) (N:=0) (cells:=[]) K1.out (by simp) rfl ho7 hg7 hf7)
   have HR:=hidI hR
   have hgl:w0.heap.size < w1.heap.size:=(Array.getElem?_eq_some_iff.1 K1.out.box).1
   have c0a:∀ o,(w1.alloc o).cell? ⟨w0.heap.size,0,none⟩=some (.slice oa 0 oc):=fun o=>cell_bel (bel_alloc _ _) c1
   have hb7:W7.heap[w0.heap.size]?=some (.cells #[.slice oa 0 oc] 26):=by
    rw[hg7.block _ (Nat.lt_of_lt_of_le hgl (bel_alloc w1 _).size) (fun e=>by have:=(own_lt hrow e.symm).1;omega),(bel_alloc w1 _).block _ hgl,K1.out.box]
   have c7a:W7.cell? ⟨w0.heap.size,0,none⟩=some (.slice oa 0 oc):=by simp[World.cell?,hb7]
   have c7f:W7.frozen? ⟨w0.heap.size,0,none⟩=false:=by simp[World.frozen?,hb7]
   clear hR ho7 hg7 hf7 hb7 hrow
   go_wp2_with (at_builtin;go_must (refine Lib.wpList_append_run _ rfl _ _ _ _ rfl (.slice oa 0 oc) (.slice (some ⟨w1.heap.size,0,none⟩) 1 1) rfl rfl _ _ HR.out ?_);refine Hid.out ?_)
   refine hidI ?_
   go_upto_region 5 with fail
   obtain⟨wq,hwq⟩:∃ wq,wq=W7.setCell ⟨w0.heap.size,0,none⟩ (.slice (some ⟨g7,0,none⟩) (0+1) c7):=⟨_,rfl⟩
   rw[<-hwq]at KN ⊢
   clear hwq c1 c0a c7a c7f
   obtain⟨in2,hin2⟩:∃ i:List Own,[]=i:=⟨_,rfl⟩
   have hlen:in2.length=0:=by rw[<-hin2];rfl
   obtain⟨pin2,hpin2⟩:∃ i:List Value,[]=i:=⟨_,rfl⟩
   obtain⟨Z2,hZ2⟩:∃ i,(fun k=>Z k\/(Value.slice none 0 0).ownBlock=some k)=i:=⟨_,rfl⟩
   have KQ:Hid (KptI w0 in2 (some ⟨n,[]⟩) F wq (.slice (some ⟨g7,0,none⟩) (in2.length+1) c7) (.slice none 0 0) pin2 Z2):=hidI (by
    rw[hlen,<-hin2,<-hpin2,<-hZ2]
    exact KN.out.1)
   have FK:=hidI KN.out.2
   have HLEN:=hidI hlen
   have FINAL:Hid (∀ w' pl',KptI w0 in2 (some ⟨n,[]++[p]⟩) F w' (.slice (some ⟨g7,0,none⟩) (in2.length+1) c7) pl' pin2 Z2/\wq.heap.size<=w'.heap.size/\(∀ k,F k->k < wq.heap.size->w'.heap[k]?=wq.heap[k]?)->KpI w0 (addP os n p) F w'/\W.heap.size<=w'.heap.size/\∀ k,F k->k < W.heap.size->w'.heap[k]?=W.heap[k]?):=hidI (fun w' pl' h=>FR.out w' ⟨⟨in2,some ⟨n,[]++[p]⟩,_,pl',pin2,Z2,by rw[ADD.out,<-hin2];rfl,h.1⟩,Nat.le_trans FK.out.1 h.2.1,fun k hk hlt=>by rw[h.2.2 k hk (Nat.lt_of_lt_of_le hlt FK.out.1),FK.out.2 k hk hlt]⟩)
   clear hlen KN K1 hin2 hpin2 hZ2
   obtain⟨pl9,hpl9⟩:∃ x:Value,x=.slice none 0 0:=⟨_,rfl⟩
   rw[<-hpl9]at KQ
   clear hpl9
   have C0:Hid (wq.cell? ⟨w0.heap.size,0,none⟩=some (.slice (some ⟨g7,0,none⟩) (0+1) c7)):=hidI (by have h9:=KQ.out.box;rw[HLEN.out]at h9;simp[World.cell?,h9])
   have N0:Hid (some w0.heap.size≠pl9.ownBlock):=hidI (fun e=>by have:=(KQ.out.rows.2 _ e.symm).1;omega)
   have C1:Hid (wq.cell? ⟨g7,0 * 2+1,none⟩=some pl9):=hidI (by have h9:=(kpt_cells KQ.out).1;rw[HLEN.out]at h9;exact h9)
   have N1:Hid (some g7≠pl9.ownBlock):=hidI (fun e=>KQ.out.off g7 rfl e.symm)
   have PLF:=KQ.out.last.2.1
   obtain⟨sa,sn,sc,hsv⟩:∃ sa sn sc,pl9=.slice sa sn sc:=by
    rcases PLF.2 with⟨h9,-⟩ | ⟨_,_,_,h9,-⟩
    ·exact⟨_,_,_,h9⟩
    ·exact⟨_,_,_,h9⟩
   subst hsv
   clear PLF
   refine wp_region_T (fun wS=>World.grownBy wq wS (Value.slice sa sn sc).ownBlock) [12] (by kernel_rfl) (gb_drew (gb_refl _ _)) (fun hHeld=>?_)
   refine WT.out ?_
   refine tk (i:=0) (d:=33) (v:=?_) [10,11,12] rfl rfl (by decide +kernel) rfl (fun _ _ _ h=>h) hHeld ?_ ?_
   rotate_left
   ·intro wS hSw
    have u0:=hSw.cell C0.out N0.out
    have u1:=hSw.cell C1.out N1.out
    go_simp
    all_goals with_reducible rfl
   simp only[aput,List.set]
   refine tk (i:=1) (d:=34) (v:=?_) [10,11,12] rfl rfl (by decide +kernel) rfl (fun _ _ _ h=>h) hHeld ?_ ?_
   rotate_left
   ·intro wS hSw
    go_simp
    all_goals with_reducible rfl
   simp only[aput,List.set]
   refine tk (i:=2) (d:=35) (v:=?_) [4,5,6,9,10,11,12] rfl rfl (by decide +kernel) rfl (fun _ _ _ h=>h) hHeld ?_ ?_
   rotate_left
   ·intro wS hSw
    have u0:=hSw.cell C0.out N0.out
    have u1:=hSw.cell C1.out N1.out
    go_simp
    all_goals with_reducible rfl
   simp only[aput,List.set]
   refine tk (i:=3) (d:=36) (v:=?_) [4,5,6,9,10,11,12] rfl rfl (by decide +kernel) rfl (fun _ _ _ h=>h) hHeld ?_ ?_
   rotate_left
   ·intro wS hSw
    go_simp
    all_goals with_reducible rfl
   simp only[aput,List.set]
   refine tk (i:=4) (d:=37) (v:=?_) [5,6,9,10,11,12] rfl rfl (by decide +kernel) rfl (fun _ _ _ h=>h) hHeld ?_ ?_
   rotate_left
   ·intro wS hSw
    go_simp
    all_goals with_reducible rfl
   simp only[aput,List.set]
   refine tk (i:=5) (d:=38) (v:=?_) [6,9,10,11,12] rfl rfl (by decide +kernel) rfl (fun _ _ _ h=>h) hHeld ?_ ?_
   rotate_left
   ·intro wS hSw
    go_simp
    all_goals with_reducible rfl
   simp only[aput,List.set]
   refine tk (i:=6) (d:=39) (v:=?_) [9,10,11,12] rfl rfl (by decide +kernel) rfl (fun _ _ _ h=>h) hHeld ?_ ?_
   rotate_left
   ·intro wS hSw
    have u0:=hSw.cell C0.out N0.out
    have u1:=hSw.cell C1.out N1.out
    go_simp
    all_goals with_reducible rfl
   simp only[aput,List.set]
   refine tk (i:=7) (d:=40) (v:=?_) [8,9,10,11,12] rfl rfl (by decide +kernel) rfl (fun _ _ _ h=>h) hHeld ?_ ?_
   rotate_left
   ·intro wS hSw
    go_simp
    all_goals with_reducible rfl
   simp only[aput,List.set]
   repeat' (first
    | exact nl
    |(refine cns (i:=8) (o:=_) rfl (fun K hK=>?_) ?_
      go_simp
      refine hK.out _ _ (gb_alloc hHeld _) (fun hHeld2=>?_)
      clear hK K
      replace hHeld:=hHeld2
      clear hHeld2
      try simp only[Act.put,List.setIfInBounds_toArray,List.set_cons_zero,List.set_cons_succ])
    |(refine cns (i:=9) (o:={ dst:=some 42,op:=Go.Op.call { callee:=Go.Callee.builtin Go.Builtin.append,args:=#[Go.Operand.tmp 39,Go.Operand.tmp 41],argTypes:=#[22,22] },type:=22,pos:= "owner.go:130",after:=#[{ on:=6,ground:=Go.Ground.data },{ on:=8,ground:=Go.Ground.data }],guard:=none }) rfl (fun K hK=>?_) ?_
      refine step_run2 (by rfl) (.tmp 39) (.tmp 41) 22 (by rfl) _ _ (by rfl) (by rfl) _ (fun ty=>push_reg (wq:=wq) (by rfl) (by rfl) (by rfl) (by rfl) KQ.out.last.2.1 PLN.out (by have:=(Array.getElem?_eq_some_iff.1 KQ.out.box).1;omega) ty) (fun v9 W9 hR=>?_)
      obtain⟨g9,c9,rfl,ho9,hg9,hf9⟩:=hR
      have FIN:=hidI (kpt_path KQ.out PLX.out ho9 hg9 hf9)
      have ROWS:=hidI (kpt_cell KQ.out hg9)
      refine hK.out _ _ (gb_trans (World.grownBy_alloc wq _ _) hg9) (fun hHeld2=>?_)
      clear ho9 hg9 hf9
      clear hK K
      replace hHeld:=hHeld2
      clear hHeld2
      try simp only[Act.put,List.setIfInBounds_toArray,List.set_cons_zero,List.set_cons_succ])
    |(refine lst (i:=12) (o:=_) (by decide +kernel) rfl (fun K hK=>?_)
      obtain⟨n0,m0⟩:=ROWS.out
      rw[HLEN.out]at n0 m0
      have FIN2:=FINAL.out _ _ FIN.out
      rw[HLEN.out]at FIN2
      have FIN3:=hidI FIN2
      clear FIN2
      go_simp
      refine hK.out _ _ ?_
      clear hK K
      try simp only[Act.put,List.setIfInBounds_toArray,List.set_cons_zero,List.set_cons_succ])
    |(refine tk (i:=10) (d:=43) (v:=?_) [11,12] rfl rfl (by decide +kernel) rfl (fun _ _ _ h=>h) (by exact hHeld) ?_ ?_
      rotate_left
      ·intro wS hSw
       go_simp
       all_goals with_reducible rfl
      simp only[aput,List.set])
    |(refine tk (i:=11) (d:=44) (v:=?_) [12] rfl rfl (by decide +kernel) rfl (fun _ _ _ h=>h) (by exact hHeld) ?_ ?_
      rotate_left
      ·intro wS hSw
       go_simp
       all_goals with_reducible rfl
      simp only[aput,List.set])
    | refine rdy [8] (by decide +kernel) ?_
    | refine rdy [9] (by decide +kernel) ?_
    | fail)
   all_goals
    refine dn (by kernel_rfl) ?_
    clear n0 m0
    go_wp2_with fail
    go_end0
    exact⟨rfl,FIN3.out⟩
  | some o=>
   obtain⟨gb,oc,hov⟩:=kpt_form K1.out
   subst hov
   by_cases hn:o.name=n
   ·subst hn
    have ADD:Hid (addP os o.name p=init++[⟨o.name,o.paths++[p]⟩]):=hidI (by rw[hos];exact addP_same init o p)
    have c2:=(kpt_cells K1.out).2
    have PLN:Hid (o.paths.length<=4000000):=hidI (hP o (by rw[hos];simp))
    have hnl:init.length+1<=4000000:=by rw[hos]at hN;simpa using hN
    clear hos hP hN
    obtain⟨wq,hwq⟩:∃ wq,wq=w1:=⟨_,rfl⟩
    subst hwq
    have FINAL:Hid (∀ w' pl',KptI w0 init (some ⟨o.name,o.paths++[p]⟩) F w' (.slice (some ⟨gb,0,none⟩) (init.length+1) oc) pl' pin Z/\wq.heap.size<=w'.heap.size/\(∀ k,F k->k < wq.heap.size->w'.heap[k]?=wq.heap[k]?)->KpI w0 (addP os o.name p) F w'/\W.heap.size<=w'.heap.size/\∀ k,F k->k < W.heap.size->w'.heap[k]?=W.heap[k]?):=hidI (fun w' pl' h=>FR.out w' ⟨⟨init,some ⟨o.name,o.paths++[p]⟩,_,pl',pin,Z,by rw[ADD.out];rfl,h.1⟩,h.2⟩)
    have KQ:=K1
    clear K1
    go_upto_region 5 with fail
    clear c1 c2
    have C0:Hid (wq.cell? ⟨w0.heap.size,0,none⟩=some (.slice (some ⟨gb,0,none⟩) (init.length+1) oc)):=hidI (by have h9:=KQ.out.box;simp[World.cell?,h9])
    have N0:Hid (some w0.heap.size≠pl.ownBlock):=hidI (fun e=>by have:=(KQ.out.rows.2 _ e.symm).1;omega)
    have C1:Hid (wq.cell? ⟨gb,init.length * 2+1,none⟩=some pl):=hidI (by have h9:=(kpt_cells KQ.out).1;exact h9)
    have N1:Hid (some gb≠pl.ownBlock):=hidI (fun e=>KQ.out.off gb rfl e.symm)
    have PLF:=KQ.out.last.2.1
    obtain⟨sa,sn,sc,hsv⟩:∃ sa sn sc,pl=.slice sa sn sc:=by
     rcases PLF.2 with⟨h9,-⟩ | ⟨_,_,_,h9,-⟩
     ·exact⟨_,_,_,h9⟩
     ·exact⟨_,_,_,h9⟩
    subst hsv
    clear PLF
    refine wp_region_T (fun wS=>World.grownBy wq wS (Value.slice sa sn sc).ownBlock) [12] (by kernel_rfl) (gb_drew (gb_refl _ _)) (fun hHeld=>?_)
    refine WT.out ?_
    refine tk (i:=0) (d:=33) (v:=?_) [10,11,12] rfl rfl (by decide +kernel) rfl (fun _ _ _ h=>h) hHeld ?_ ?_
    rotate_left
    ·intro wS hSw
     have u0:=hSw.cell C0.out N0.out
     have u1:=hSw.cell C1.out N1.out
     go_simp
     all_goals with_reducible rfl
    simp only[aput,List.set]
    refine tk (i:=1) (d:=34) (v:=?_) [10,11,12] rfl rfl (by decide +kernel) rfl (fun _ _ _ h=>h) hHeld ?_ ?_
    rotate_left
    ·intro wS hSw
     go_simp
     all_goals with_reducible rfl
    simp only[aput,List.set]
    refine tk (i:=2) (d:=35) (v:=?_) [4,5,6,9,10,11,12] rfl rfl (by decide +kernel) rfl (fun _ _ _ h=>h) hHeld ?_ ?_
    rotate_left
    ·intro wS hSw
     have u0:=hSw.cell C0.out N0.out
     have u1:=hSw.cell C1.out N1.out
     go_simp
     all_goals with_reducible rfl
    simp only[aput,List.set]
    refine tk (i:=3) (d:=36) (v:=?_) [4,5,6,9,10,11,12] rfl rfl (by decide +kernel) rfl (fun _ _ _ h=>h) hHeld ?_ ?_
    rotate_left
    ·intro wS hSw
     go_simp
     all_goals with_reducible rfl
    simp only[aput,List.set]
    refine tk (i:=4) (d:=37) (v:=?_) [5,6,9,10,11,12] rfl rfl (by decide +kernel) rfl (fun _ _ _ h=>h) hHeld ?_ ?_
    rotate_left
    ·intro wS hSw
     go_simp
     all_goals with_reducible rfl
    simp only[aput,List.set]
    refine tk (i:=5) (d:=38) (v:=?_) [6,9,10,11,12] rfl rfl (by decide +kernel) rfl (fun _ _ _ h=>h) hHeld ?_ ?_
    rotate_left
    ·intro wS hSw
     go_simp
     all_goals with_reducible rfl
    simp only[aput,List.set]
    refine tk (i:=6) (d:=39) (v:=?_) [9,10,11,12] rfl rfl (by decide +kernel) rfl (fun _ _ _ h=>h) hHeld ?_ ?_
    rotate_left
    ·intro wS hSw
     have u0:=hSw.cell C0.out N0.out
     have u1:=hSw.cell C1.out N1.out
     go_simp
     all_goals with_reducible rfl
    simp only[aput,List.set]
    refine tk (i:=7) (d:=40) (v:=?_) [8,9,10,11,12] rfl rfl (by decide +kernel) rfl (fun _ _ _ h=>h) hHeld ?_ ?_
    rotate_left
    ·intro wS hSw
     go_simp
     all_goals with_reducible rfl
    simp only[aput,List.set]
    repeat' (first
     | exact nl
     |(refine cns (i:=8) (o:=_) rfl (fun K hK=>?_) ?_
       go_simp
       refine hK.out _ _ (gb_alloc hHeld _) (fun hHeld2=>?_)
       clear hK K
       replace hHeld:=hHeld2
       clear hHeld2
       try simp only[Act.put,List.setIfInBounds_toArray,List.set_cons_zero,List.set_cons_succ])
     |(refine cns (i:=9) (o:={ dst:=some 42,op:=Go.Op.call { callee:=Go.Callee.builtin Go.Builtin.append,args:=#[Go.Operand.tmp 39,Go.Operand.tmp 41],argTypes:=#[22,22] },type:=22,pos:= "owner.go:130",after:=#[{ on:=6,ground:=Go.Ground.data },{ on:=8,ground:=Go.Ground.data }],guard:=none }) rfl (fun K hK=>?_) ?_
       refine step_run2 (by rfl) (.tmp 39) (.tmp 41) 22 (by rfl) _ _ (by rfl) (by rfl) _ (fun ty=>push_reg (wq:=wq) (by rfl) (by rfl) (by rfl) (by rfl) KQ.out.last.2.1 PLN.out (by have:=(Array.getElem?_eq_some_iff.1 KQ.out.box).1;omega) ty) (fun v9 W9 hR=>?_)
       obtain⟨g9,c9,rfl,ho9,hg9,hf9⟩:=hR
       have FIN:=hidI (kpt_path KQ.out PLX.out ho9 hg9 hf9)
       have ROWS:=hidI (kpt_cell KQ.out hg9)
       refine hK.out _ _ (gb_trans (World.grownBy_alloc wq _ _) hg9) (fun hHeld2=>?_)
       clear ho9 hg9 hf9
       clear hK K
       replace hHeld:=hHeld2
       clear hHeld2
       try simp only[Act.put,List.setIfInBounds_toArray,List.set_cons_zero,List.set_cons_succ])
     |(refine lst (i:=12) (o:=_) (by decide +kernel) rfl (fun K hK=>?_)
       obtain⟨n0,m0⟩:=ROWS.out
       have FIN3:=hidI (FINAL.out _ _ FIN.out)
       go_simp
       refine hK.out _ _ ?_
       clear hK K
       try simp only[Act.put,List.setIfInBounds_toArray,List.set_cons_zero,List.set_cons_succ])
     |(refine tk (i:=10) (d:=43) (v:=?_) [11,12] rfl rfl (by decide +kernel) rfl (fun _ _ _ h=>h) (by exact hHeld) ?_ ?_
       rotate_left
       ·intro wS hSw
        go_simp
        all_goals with_reducible rfl
       simp only[aput,List.set])
     |(refine tk (i:=11) (d:=44) (v:=?_) [12] rfl rfl (by decide +kernel) rfl (fun _ _ _ h=>h) (by exact hHeld) ?_ ?_
       rotate_left
       ·intro wS hSw
        go_simp
        all_goals with_reducible rfl
       simp only[aput,List.set])
     | refine rdy [8] (by decide +kernel) ?_
     | refine rdy [9] (by decide +kernel) ?_
     | fail)
    all_goals
     refine dn (by kernel_rfl) ?_
     clear n0 m0
     go_wp2_with fail
     go_end0
     exact⟨rfl,FIN3.out⟩
   ·have e9:(o.name == n)=false:=by simpa using hn
    have i9:(0:Int)<=(init.length:Int)+1:=by omega
    have ADD:Hid (addP os n p=(init++[o])++[⟨n,[]++[p]⟩]):=hidI (by rw[hos];exact addP_new init o n p hn)
    have c2:=(kpt_cells K1.out).2
    have hnl:init.length+1<=4000000:=by rw[hos]at hN;simpa using hN
    have PLN:Hid ((([]:List (List UInt8))).length<=4000000):=hidI (by simp)
    clear hos hP hN
    obtain⟨g7,c7,W7,hR,ho7,hg7,hf7⟩:=run_pushO (W:=w1.alloc (.cells #[.string ⟨n.toArray⟩,.slice none 0 0] 41)) (B:=w0.heap.size+1) (v:=.slice (some ⟨gb,0,none⟩) (init.length+1) oc) (n:=init.length+1) (cs:=oCells (init++[o]) (pin++[pl])) (nb:=w1.heap.size) (k:=⟨n.toArray⟩) (pa:=none) (pn:=0) (pc:=0) (own_same K1.out.last.1 fun g hg=>(bel_alloc _ _).block g (own_lt K1.out.last.1 hg).2) (heap_alloc_new _ _) hnl (by have:=(bel_alloc w1 (.cells #[.string ⟨n.toArray⟩,.slice none 0 0] 41)).size;have:=(Array.getElem?_eq_some_iff.1 K1.out.box).1;omega) 26
    have KN:=hidI (kpt_new (n:=n) (N:=init.length+1) (cells:=oCells (init++[o]) (pin++[pl])) K1.out (by simp) rfl ho7 hg7 hf7)
    have HR:=hidI hR
    have hgl:w0.heap.size < w1.heap.size:=(Array.getElem?_eq_some_iff.1 K1.out.box).1
    have c0a:∀ o,(w1.alloc o).cell? ⟨w0.heap.size,0,none⟩=some (.slice (some ⟨gb,0,none⟩) (init.length+1) oc):=fun o=>cell_bel (bel_alloc _ _) c1
    have hb7:W7.heap[w0.heap.size]?=some (.cells #[.slice (some ⟨gb,0,none⟩) (init.length+1) oc] 26):=by
     rw[hg7.block _ (Nat.lt_of_lt_of_le hgl (bel_alloc w1 _).size) (fun e=>by have:=(own_lt K1.out.last.1 e.symm).1;omega),(bel_alloc w1 _).block _ hgl,K1.out.box]
    have c7a:W7.cell? ⟨w0.heap.size,0,none⟩=some (.slice (some ⟨gb,0,none⟩) (init.length+1) oc):=by simp[World.cell?,hb7]
    have c7f:W7.frozen? ⟨w0.heap.size,0,none⟩=false:=by simp[World.frozen?,hb7]
    clear hR ho7 hg7 hf7 hb7
    go_wp2_with (at_builtin;go_must (refine Lib.wpList_append_run _ rfl _ _ _ _ rfl (.slice (some ⟨gb,0,none⟩) (init.length+1) oc) (.slice (some ⟨w1.heap.size,0,none⟩) 1 1) rfl rfl _ _ HR.out ?_);refine Hid.out ?_)
    refine hidI ?_
    go_upto_region 5 with fail
    obtain⟨wq,hwq⟩:∃ wq,wq=W7.setCell ⟨w0.heap.size,0,none⟩ (.slice (some ⟨g7,0,none⟩) (init.length+1+1) c7):=⟨_,rfl⟩
    rw[<-hwq]at KN ⊢
    clear hwq c1 c2 c0a c7a c7f
    obtain⟨in2,hin2⟩:∃ i,init++[o]=i:=⟨_,rfl⟩
    have hlen:in2.length=init.length+1:=by rw[<-hin2];simp
    obtain⟨pin2,hpin2⟩:∃ i,pin++[pl]=i:=⟨_,rfl⟩
    obtain⟨Z2,hZ2⟩:∃ i,(fun k=>Z k\/pl.ownBlock=some k)=i:=⟨_,rfl⟩
    have KQ:Hid (KptI w0 in2 (some ⟨n,[]⟩) F wq (.slice (some ⟨g7,0,none⟩) (in2.length+1) c7) (.slice none 0 0) pin2 Z2):=hidI (by
     rw[hlen,<-hin2,<-hpin2,<-hZ2]
     exact KN.out.1)
    have FK:=hidI KN.out.2
    have HLEN:=hidI hlen
    have FINAL:Hid (∀ w' pl',KptI w0 in2 (some ⟨n,[]++[p]⟩) F w' (.slice (some ⟨g7,0,none⟩) (in2.length+1) c7) pl' pin2 Z2/\wq.heap.size<=w'.heap.size/\(∀ k,F k->k < wq.heap.size->w'.heap[k]?=wq.heap[k]?)->KpI w0 (addP os n p) F w'/\W.heap.size<=w'.heap.size/\∀ k,F k->k < W.heap.size->w'.heap[k]?=W.heap[k]?):=hidI (fun w' pl' h=>FR.out w' ⟨⟨in2,some ⟨n,[]++[p]⟩,_,pl',pin2,Z2,by rw[ADD.out,hin2];rfl,h.1⟩,Nat.le_trans FK.out.1 h.2.1,fun k hk hlt=>by rw[h.2.2 k hk (Nat.lt_of_lt_of_le hlt FK.out.1),FK.out.2 k hk hlt]⟩)
    clear hlen KN K1 hin2 hpin2 hZ2
    obtain⟨pl9,hpl9⟩:∃ x:Value,x=.slice none 0 0:=⟨_,rfl⟩
    rw[<-hpl9]at KQ
    clear hpl9
    have C0:Hid (wq.cell? ⟨w0.heap.size,0,none⟩=some (.slice (some ⟨g7,0,none⟩) (init.length+1+1) c7)):=hidI (by have h9:=KQ.out.box;rw[HLEN.out]at h9;simp[World.cell?,h9])
    have N0:Hid (some w0.heap.size≠pl9.ownBlock):=hidI (fun e=>by have:=(KQ.out.rows.2 _ e.symm).1;omega)
    have C1:Hid (wq.cell? ⟨g7,(init.length+1) * 2+1,none⟩=some pl9):=hidI (by have h9:=(kpt_cells KQ.out).1;rw[HLEN.out]at h9;exact h9)
    have N1:Hid (some g7≠pl9.ownBlock):=hidI (fun e=>KQ.out.off g7 rfl e.symm)
    have PLF:=KQ.out.last.2.1
    obtain⟨sa,sn,sc,hsv⟩:∃ sa sn sc,pl9=.slice sa sn sc:=by
     rcases PLF.2 with⟨h9,-⟩ | ⟨_,_,_,h9,-⟩
     ·exact⟨_,_,_,h9⟩
     ·exact⟨_,_,_,h9⟩
    subst hsv
    clear PLF
    refine wp_region_T (fun wS=>World.grownBy wq wS (Value.slice sa sn sc).ownBlock) [12] (by kernel_rfl) (gb_drew (gb_refl _ _)) (fun hHeld=>?_)
    refine WT.out ?_
    refine tk (i:=0) (d:=33) (v:=?_) [10,11,12] rfl rfl (by decide +kernel) rfl (fun _ _ _ h=>h) hHeld ?_ ?_
    rotate_left
    ·intro wS hSw
     have u0:=hSw.cell C0.out N0.out
     have u1:=hSw.cell C1.out N1.out
     go_simp
     all_goals with_reducible rfl
    simp only[aput,List.set]
    refine tk (i:=1) (d:=34) (v:=?_) [10,11,12] rfl rfl (by decide +kernel) rfl (fun _ _ _ h=>h) hHeld ?_ ?_
    rotate_left
    ·intro wS hSw
     go_simp
     all_goals with_reducible rfl
    simp only[aput,List.set]
    refine tk (i:=2) (d:=35) (v:=?_) [4,5,6,9,10,11,12] rfl rfl (by decide +kernel) rfl (fun _ _ _ h=>h) hHeld ?_ ?_
    rotate_left
    ·intro wS hSw
     have u0:=hSw.cell C0.out N0.out
     have u1:=hSw.cell C1.out N1.out
     go_simp
     all_goals with_reducible rfl
    simp only[aput,List.set]
    refine tk (i:=3) (d:=36) (v:=?_) [4,5,6,9,10,11,12] rfl rfl (by decide +kernel) rfl (fun _ _ _ h=>h) hHeld ?_ ?_
    rotate_left
    ·intro wS hSw
     go_simp
     all_goals with_reducible rfl
    simp only[aput,List.set]
    refine tk (i:=4) (d:=37) (v:=?_) [5,6,9,10,11,12] rfl rfl (by decide +kernel) rfl (fun _ _ _ h=>h) hHeld ?_ ?_
    rotate_left
    ·intro wS hSw
     go_simp
     all_goals with_reducible rfl
    simp only[aput,List.set]
    refine tk (i:=5) (d:=38) (v:=?_) [6,9,10,11,12] rfl rfl (by decide +kernel) rfl (fun _ _ _ h=>h) hHeld ?_ ?_
    rotate_left
    ·intro wS hSw
     go_simp
     all_goals with_reducible rfl
    simp only[aput,List.set]
    refine tk (i:=6) (d:=39) (v:=?_) [9,10,11,12] rfl rfl (by decide +kernel) rfl (fun _ _ _ h=>h) hHeld ?_ ?_
    rotate_left
    ·intro wS hSw
     have u0:=hSw.cell C0.out N0.out
     have u1:=hSw.cell C1.out N1.out
     go_simp
     all_goals with_reducible rfl
    simp only[aput,List.set]
    refine tk (i:=7) (d:=40) (v:=?_) [8,9,10,11,12] rfl rfl (by decide +kernel) rfl (fun _ _ _ h=>h) hHeld ?_ ?_
    rotate_left
    ·intro wS hSw
     go_simp
     all_goals with_reducible rfl
    simp only[aput,List.set]
    repeat' (first
     | exact nl
     |(refine cns (i:=8) (o:=_) rfl (fun K hK=>?_) ?_
       go_simp
       refine hK.out _ _ (gb_alloc hHeld _) (fun hHeld2=>?_)
       clear hK K
       replace hHeld:=hHeld2
       clear hHeld2
       try simp only[Act.put,List.setIfInBounds_toArray,List.set_cons_zero,List.set_cons_succ])
     |(refine cns (i:=9) (o:={ dst:=some 42,op:=Go.Op.call { callee:=Go.Callee.builtin Go.Builtin.append,args:=#[Go.Operand.tmp 39,Go.Operand.tmp 41],argTypes:=#[22,22] },type:=22,pos:= "owner.go:130",after:=#[{ on:=6,ground:=Go.Ground.data },{ on:=8,ground:=Go.Ground.data }],guard:=none }) rfl (fun K hK=>?_) ?_
       refine step_run2 (by rfl) (.tmp 39) (.tmp 41) 22 (by rfl) _ _ (by rfl) (by rfl) _ (fun ty=>push_reg (wq:=wq) (by rfl) (by rfl) (by rfl) (by rfl) KQ.out.last.2.1 PLN.out (by have:=(Array.getElem?_eq_some_iff.1 KQ.out.box).1;omega) ty) (fun v9 W9 hR=>?_)
       obtain⟨g9,c9,rfl,ho9,hg9,hf9⟩:=hR
       have FIN:=hidI (kpt_path KQ.out PLX.out ho9 hg9 hf9)
       have ROWS:=hidI (kpt_cell KQ.out hg9)
       refine hK.out _ _ (gb_trans (World.grownBy_alloc wq _ _) hg9) (fun hHeld2=>?_)
       clear ho9 hg9 hf9
       clear hK K
       replace hHeld:=hHeld2
       clear hHeld2
       try simp only[Act.put,List.setIfInBounds_toArray,List.set_cons_zero,List.set_cons_succ])
     |(refine lst (i:=12) (o:=_) (by decide +kernel) rfl (fun K hK=>?_)
       obtain⟨n0,m0⟩:=ROWS.out
       rw[HLEN.out]at n0 m0
       have FIN2:=FINAL.out _ _ FIN.out
       rw[HLEN.out]at FIN2
       have FIN3:=hidI FIN2
       clear FIN2
       go_simp
       refine hK.out _ _ ?_
       clear hK K
       try simp only[Act.put,List.setIfInBounds_toArray,List.set_cons_zero,List.set_cons_succ])
     |(refine tk (i:=10) (d:=43) (v:=?_) [11,12] rfl rfl (by decide +kernel) rfl (fun _ _ _ h=>h) (by exact hHeld) ?_ ?_
       rotate_left
       ·intro wS hSw
        go_simp
        all_goals with_reducible rfl
       simp only[aput,List.set])
     |(refine tk (i:=11) (d:=44) (v:=?_) [12] rfl rfl (by decide +kernel) rfl (fun _ _ _ h=>h) (by exact hHeld) ?_ ?_
       rotate_left
       ·intro wS hSw
        go_simp
        all_goals with_reducible rfl
       simp only[aput,List.set])
     | refine rdy [8] (by decide +kernel) ?_
     | refine rdy [9] (by decide +kernel) ?_
     | fail)
    all_goals
     refine dn (by kernel_rfl) ?_
     clear n0 m0
     go_wp2_with fail
     go_end0
     exact⟨rfl,FIN3.out⟩
end Go.Proofs.YtmdemcjmcnfjmaaGreatDoor
