/- What word of json's reader does. -/
import Derived.Test.YtmdemcjmcnfjmaaGreatDoorGNt
import Derived.Test.YtmdemcjmcnfjmaaGreatDoorGOq
import Derived.Test.YtmdemcjmcnfjmaaGreatDoorGShp
set_option linter.unusedSimpArgs false
set_option linter.unusedVariables false
namespace Go.Proofs.YtmdemcjmcnfjmaaGreatDoor
open Go.RowKit
structure ApplyOk (t want:V) (l:List Own) (who:List UInt8):Prop where
 rises:Rises (l.map Own.name)
 len:l.length<=6
 obT:Obs t
 obW:Obs want
 k5:t.kind=5
 cT:cnt t<=20000
 had:∀ p∈pathsOfF l who,p.length<=140737488351232/\namesP p≠[]
 lv:∀ p∈leavesF want,p.length<=140737488351232/\namesP p≠[]/\(namesP p).length+cnt ((thr (namesP p) want).getD zeroT)<=300
 lvn:(leavesF want).length<=200
 named:∀ o∈othersF t want l who,o.name.length<=maxLen
 risesO:Rises ((othersF t want l who).map Own.name)
 lenO:(othersF t want l who).length<=4000000
theorem ap_znew {a W:World} (_:Below a.heap.size a W):BoxIs (W.alloc (.cells #[.int .i64 0,.int .i64 0,.string ⟨#[]⟩,.slice none 0 0,.slice none 0 0] 25)) W.heap.size (.int .i64 0) (.int .i64 0) (.string ⟨#[]⟩) (.slice none 0 0) (.slice none 0 0):=heap_alloc_new _ _
theorem ap_keep {W1 W2:World} {ok:Nat->Prop} {S N g:Nat} {t:V} {v z0 z1 z2 z3 z4:Value} (nb:BoxIs W1 g z0 z1 z2 z3 z4) (h:In W2 (okN (fun k=>okN ok S k/\k < N) W1.heap.size) t v) (hN:N<=g) (hS:S<=W1.heap.size):In W2 (fun k=>okN ok S k/\k≠g) t v:=
 h.weak fun k hk=>by
  have hl:=(Array.getElem?_eq_some_iff.1 nb).1
  rcases hk with hk | hk
  ·exact⟨hk.1,by have:=hk.2;omega⟩
  ·exact⟨.inr (Nat.le_trans hS hk),by omega⟩
theorem ap_plain {W2:World} {ok:Nat->Prop} {S N B:Nat} {t:V} {v:Value} (h:In W2 (okN (fun k=>okN ok S k/\k < N) B) t v) (hS:S<=B):In W2 (okN ok S) t v:=
 h.weak fun k hk=>by
  rcases hk with hk | hk
  ·exact hk.1
  ·exact .inr (Nat.le_trans hS hk)
theorem ap_low {W:World} {ok:Nat->Prop} {t:V} {v:Value} (h:In W ok t v) (ob:Obj):In (W.alloc ob) (fun k=>ok k/\k≠W.heap.size) t v:=
 (h.low.bel (bel_alloc W ob)).weak fun k hk=>⟨hk.1,by have:=hk.2;omega⟩
theorem ap_keep2 {W1 W2:World} {ok:Nat->Prop} {S g:Nat} {t:V} {v z0 z1 z2 z3 z4:Value} (nb:BoxIs W1 g z0 z1 z2 z3 z4) (h:In W2 (okN (fun k=>okN ok S k/\k≠g) W1.heap.size) t v) (hS:S<=W1.heap.size):In W2 (fun k=>okN ok S k/\k≠g) t v:=
 h.weak fun k hk=>by
  have hl:=(Array.getElem?_eq_some_iff.1 nb).1
  rcases hk with hk | hk
  ·exact hk
  ·exact⟨.inr (Nat.le_trans hS hk),by omega⟩
theorem ap_plain2 {W2:World} {ok:Nat->Prop} {S B:Nat} {t:V} {v:Value} (h:In W2 (okN (okN ok S) B) t v) (hS:S<=B):In W2 (okN ok S) t v:=
 h.weak fun k hk=>by
  rcases hk with hk | hk
  ·exact hk
  ·exact .inr (Nat.le_trans hS hk)
theorem ap_new {a W:World} {ok:Nat->Prop} {res:V} {a9 b9:Option Addr} {c9 d9:Nat} (h:Below a.heap.size a W) (hi:In W ok res (.agg #[.int .i64 res.kind,.int .i64 res.n,.string ⟨res.s.toArray⟩,.slice a9 res.keys.length c9,.slice b9 res.l.length d9])) :
 BoxIs (W.alloc (.cells #[.int .i64 res.kind,.int .i64 res.n,.string ⟨res.s.toArray⟩,.slice a9 res.keys.length c9,.slice b9 res.l.length d9] 25)) W.heap.size (.int .i64 res.kind) (.int .i64 res.n) (.string ⟨res.s.toArray⟩) (.slice a9 res.keys.length c9) (.slice b9 res.l.length d9)/\a.heap.size<=W.heap.size/\Below a.heap.size a (W.alloc (.cells #[.int .i64 res.kind,.int .i64 res.n,.string ⟨res.s.toArray⟩,.slice a9 res.keys.length c9,.slice b9 res.l.length d9] 25))/\In (W.alloc (.cells #[.int .i64 res.kind,.int .i64 res.n,.string ⟨res.s.toArray⟩,.slice a9 res.keys.length c9,.slice b9 res.l.length d9] 25)) ok res (.agg #[.int .i64 res.kind,.int .i64 res.n,.string ⟨res.s.toArray⟩,.slice a9 res.keys.length c9,.slice b9 res.l.length d9]):=
 ⟨heap_alloc_new _ _,h.size,bel_trans h (bel_alloc _ _),hi.bel (bel_alloc _ _)⟩
theorem ap_put {a W:World} {ok:Nat->Prop} {res:V} {a9 b9:Option Addr} {c9 d9 g:Nat} {e0 e1 e2 e3 e4:Value} (h:Below a.heap.size a W) (hg:a.heap.size<=g) (hb:BoxIs W g e0 e1 e2 e3 e4) (hi:In W (fun k=>ok k/\k≠g) res (.agg #[.int .i64 res.kind,.int .i64 res.n,.string ⟨res.s.toArray⟩,.slice a9 res.keys.length c9,.slice b9 res.l.length d9])) :
 BoxIs (set5 W g (.int .i64 res.kind) (.int .i64 res.n) (.string ⟨res.s.toArray⟩) (.slice a9 res.keys.length c9) (.slice b9 res.l.length d9)) g (.int .i64 res.kind) (.int .i64 res.n) (.string ⟨res.s.toArray⟩) (.slice a9 res.keys.length c9) (.slice b9 res.l.length d9)/\a.heap.size<=g/\Below a.heap.size a (set5 W g (.int .i64 res.kind) (.int .i64 res.n) (.string ⟨res.s.toArray⟩) (.slice a9 res.keys.length c9) (.slice b9 res.l.length d9))/\In (set5 W g (.int .i64 res.kind) (.int .i64 res.n) (.string ⟨res.s.toArray⟩) (.slice a9 res.keys.length c9) (.slice b9 res.l.length d9)) ok res (.agg #[.int .i64 res.kind,.int .i64 res.n,.string ⟨res.s.toArray⟩,.slice a9 res.keys.length c9,.slice b9 res.l.length d9]):=
 ⟨hb.set _ _ _ _ _,hg,bel_set5 h hg _ _ _ _ _,(hi.grown (set5_gb W g _ _ _ _ _) (fun k h9=>by have:=h9.2;simp;omega)).weak fun k h9=>h9.1⟩
theorem ap_wish {w8 W:World} {ok:Nat->Prop} {S:Nat} {t:V} {L:List (List UInt8)} {v:Value} (h:WishIs w8 (fun k=>okN ok S k/\k < w8.heap.size) t L v) (hb:Below w8.heap.size w8 W):WishIs W (okN ok S) t L v:=(h.bel hb).weak fun k hk=>hk.1
theorem ap_wishg {w8 W:World} {ok:Nat->Prop} {S g:Nat} {t:V} {L:List (List UInt8)} {v:Value} (h:WishIs w8 (fun k=>okN ok S k/\k < w8.heap.size) t L v) (hb:Below w8.heap.size w8 W) (hg:w8.heap.size<=g):WishIs W (fun k=>okN ok S k/\k≠g) t L v:=(h.bel hb).weak fun k hk=>⟨hk.1,by have:=hk.2;omega⟩
attribute [local go_sem ↓] Go.wp_at_zero Go.wp_at_succ
theorem In.grownR {w w':World} {ok:Nat->Prop} {r:Option Nat} {t:V} {v:Value} (h:In w ok t v) (hg:w.grownBy w' r) (hr:∀ k,ok k->some k≠r):In w' ok t v:=by
 obtain⟨d,h⟩:=h;exact⟨d,h.grown hg hr⟩
theorem OwnsAre.grownR {w w':World} {ok:Nat->Prop} {r:Option Nat} {l:List Own} {v:Value} (h:OwnsAre w ok l v) (hg:w.grownBy w' r) (hr:∀ k,ok k->some k≠r):OwnsAre w' ok l v:=h.imp (cells_grown hg hr)
theorem OwnRow.bel {w w':World} {B:Nat} {os:List Own} {r:Value} (h:OwnRow w B os r) (hb:Below w.heap.size w w'):OwnRow w' B os r:=by
 obtain⟨pvs,h1,h2,h3⟩:=h
 exact⟨pvs,h1,own_same h2 fun g hg=>hb.block g (own_lt h2 hg).2,fun i o v q1 q2=>⟨(h3 i o v q1 q2).1,(h3 i o v q1 q2).2.bel hb⟩⟩
theorem OwnRow.lt {w:World} {B:Nat} {os:List Own} {r:Value} (h:OwnRow w B os r):∀ g,r.ownBlock=some g->B<=g/\g < w.heap.size:=by
 obtain⟨pvs,h1,h2,h3⟩:=h
 exact fun g hg=>own_lt h2 hg
theorem wish_strs {w:World} {ok:Nat->Prop} {t:V} {L:List (List UInt8)} {v0 v1 v2 v3 v4 v5:Value} (h:WishIs w ok t L (.agg #[v0,v1,v2,v3,v4,v5])):StrsAre w ok L v5:=by
 obtain⟨a1,a2,a3,c1,c2,c3,e,-,h2⟩:=h
 simp only[Value.agg.injEq,Array.mk.injEq,List.cons.injEq,and_true]at e
 rw[e.2.2.2.2.2]
 exact h2
theorem wish_low9 {w:World} {ok:Nat->Prop} {t:V} {L:List (List UInt8)} {v:Value} (h:WishIs w ok t L v):WishIs w (fun k=>ok k/\k < w.heap.size) t L v:=by
 obtain⟨a1,a2,a3,c1,c2,c3,rfl,h1,h2⟩:=h
 exact⟨a1,a2,a3,c1,c2,c3,rfl,h1.low,h2.imp fun a x q1 q2=>⟨⟨q1,World.block_lt_of_cell? _ _ q2⟩,q2⟩⟩
set_option maxRecDepth 100000 in
set_option maxHeartbeats 4000000 in
theorem apply_none (w:World) (ok:Nat->Prop) (t want:V) (l:List Own) (who:List UInt8) (force:Bool) (vt vl vw:Value) (ht:In w ok t vt) (hl:OwnsAre w ok l vl) (hw:In w ok want vw) (hM:GlobM w) (hN:(allOf l).length<=4000000) (hP:∀ o∈l,∀ x∈o.paths,x.length<=140737488351232) (hwho:who.length<=9223372036854775807) (hg1:(decide (t.kind=5)&&goodV t)=true) (hg2:(decide (want.kind=5)&&goodV want)=true) (hg3:goodOs l=true) (hg4:namedB who=true) (hf:foundF (blockedF want t (leavesF want)) who l=[]) (hao:ApplyOk t want l who) :
 Calls Tryz.prog 6 #[vt,vl,.string ⟨who.toArray⟩,vw,.bool force] w fun e w'=>ApplyIs w w' ok (applyF t l who want force) e:=by
 have AO:=hidI hao
 have CC:Hid (confF t l who want=foundF (blockedF want t (leavesF want)) who l):=hidI (by rw[confF,if_pos ⟨by simpa using (Bool.and_eq_true_iff.1 hg1).2,hg3⟩])
 obtain⟨nf,hnf⟩:∃ nf,(foundF (blockedF want t (leavesF want)) who l).length=nf:=⟨_,rfl⟩
 have NF:=hidI hnf
 have RA:Hid (applyF t l who want force=if goodV (resultF t want l who)=true/\(withOwnF (othersF t want l who) ⟨who,leavesF want⟩).length<=6 then (resultF t want l who,withOwnF (othersF t want l who) ⟨who,leavesF want⟩,[],0) else (t,l,[],2)):=hidI (by
  unfold applyF
  rw[if_pos ⟨by simpa using hg1,by simpa using hg2,hg3,hg4⟩,if_neg (by intro h;exact h.1 hf)])
 have q0:¬(0:Int) < (nf:Int):=by
  have:nf=0:=by rw[<-hnf,hf];rfl
  omega
 clear hnf hao
 have HT:=hidI ht.low
 have HL:=hidI hl.low
 have HW:=hidI hw.low
 have HM:=hidI hM
 have HN:=hidI hN
 have HP:=hidI hP
 obtain⟨b1,b2,d1,d2,rfl⟩:=ht.form
 obtain⟨a1,a2,c1,c2,rfl⟩:=hw.form
 obtain⟨la,lc,rfl⟩:=hl.form
 have ll:=hl.1
 unfold maxLen at ll
 clear ht hl hw hM hN hP
 obtain⟨W3,hW3⟩:∃ W,W=(((w.alloc (.cells #[.int .i64 t.kind,.int .i64 t.n,.string ⟨t.s.toArray⟩,.slice b1 t.keys.length d1,.slice b2 t.l.length d2] 25)).alloc (.cells #[.string ⟨who.toArray⟩] 9)).alloc (.cells #[.int .i64 want.kind,.int .i64 want.n,.string ⟨want.s.toArray⟩,.slice a1 want.keys.length c1,.slice a2 want.l.length c2] 25)).alloc (.cells #[.int .i64 0,.int .i64 0,.string ⟨#[]⟩,.slice none 0 0,.slice none 0 0] 25):=⟨_,rfl⟩
 have BW:Hid (Below w.heap.size w W3):=hidI (by rw[hW3];exact bel_trans (bel_trans (bel_trans (bel_alloc _ _) (bel_alloc _ _)) (bel_alloc _ _)) (bel_alloc _ _))
 have X1:Hid (BoxIs W3 w.heap.size (.int .i64 t.kind) (.int .i64 t.n) (.string ⟨t.s.toArray⟩) (.slice b1 t.keys.length d1) (.slice b2 t.l.length d2)):=hidI (by rw[hW3];exact h4z _ _ _ _ _ (h3a _ _ _ _))
 have X2:Hid (W3.heap[w.heap.size+1]?=some (.cells #[.string ⟨who.toArray⟩] 9)):=hidI (by rw[hW3];exact h4z _ _ _ _ _ (h3b _ _ _ _))
 have X3:Hid (BoxIs W3 (w.heap.size+2) (.int .i64 want.kind) (.int .i64 want.n) (.string ⟨want.s.toArray⟩) (.slice a1 want.keys.length c1) (.slice a2 want.l.length c2)):=hidI (by rw[hW3];exact h4z _ _ _ _ _ (h3c _ _ _ _))
 have X4:Hid (BoxIs W3 (w.heap.size+3) (.int .i64 0) (.int .i64 0) (.string ⟨#[]⟩) (.slice none 0 0) (.slice none 0 0)):=hidI (by rw[hW3];exact h4dO _ _ _ _ _)
 have HW3:=hidI hW3
 clear hW3
 have G1:Hid (∀ W,Below w.heap.size w W->Calls Tryz.prog 19 #[.agg #[.int .i64 t.kind,.int .i64 t.n,.string ⟨t.s.toArray⟩,.slice b1 t.keys.length d1,.slice b2 t.l.length d2]] W fun e w'=>e=.returned (.bool (decide (t.kind=5)&&goodV t))/\Below W.heap.size W w'):=hidI (fun W hW=>goodObject_at W _ t _ (HT.out.bel hW))
 have G2:Hid (∀ W,Below w.heap.size w W->Calls Tryz.prog 19 #[.agg #[.int .i64 want.kind,.int .i64 want.n,.string ⟨want.s.toArray⟩,.slice a1 want.keys.length c1,.slice a2 want.l.length c2]] W fun e w'=>e=.returned (.bool (decide (want.kind=5)&&goodV want))/\Below W.heap.size W w'):=hidI (fun W hW=>goodObject_at W _ want _ (HW.out.bel hW))
 have G3:Hid (∀ W,Below w.heap.size w W->Calls Tryz.prog 12 #[.slice la l.length lc] W fun e w'=>e=.returned (.bool (goodOs l))/\Below W.heap.size W w'):=hidI (fun W hW=>goodOwners_at W _ l _ (HL.out.bel hW) HP.out (HM.out.bel hW))
 have G4:Hid (∀ W,Below w.heap.size w W->Calls Tryz.prog 20 #[.string ⟨who.toArray⟩] W fun e w'=>e=.returned (.bool (namedB who))/\Below W.heap.size W w'):=hidI (fun W _=>(named_at W who hwho).mono fun e w' h=>⟨h.1,h.2 ▸ Below.refl _ _⟩)
 have SW:Hid (w.heap.size+4<=W3.heap.size):=hidI (by have:=(Array.getElem?_eq_some_iff.1 X4.out).1;omega)
 rw[hg1]at G1
 rw[hg2]at G2
 rw[hg3]at G3
 rw[hg4]at G4
 clear hg1 hg2 hg3 hg4
 obtain⟨o0,o1,o2,o3,o4,-⟩:=X1.out.c
 go_enter Tryz.func6,Tryz.ntmps6
 go_upto_region 1 with fail
 rw[<-HW3.out]
 go_upto_region 3 with (first
  |(go_at_call 20;refine(G4.out _ B3.out).mono ?_;rintro e w4 ⟨rfl,hb⟩;have B4:=hidI (bel_trans B3.out hb);have Y4:=hidI (bel_trans Y3.out hb);clear hb;skip)
  |(go_at_call 12;refine(G3.out _ B2.out).mono ?_;rintro e w3 ⟨rfl,hb⟩;have B3:=hidI (bel_trans B2.out hb);have Y3:=hidI (bel_trans Y2.out hb);clear hb;have u0:w3.cell? ⟨w.heap.size+1,0,none⟩=some (.string ⟨who.toArray⟩):=(by have h9:=blk_bel Y3.out X2.out;simp[World.cell?,h9]);skip)
  |(go_at_call 19;refine(G2.out _ B1.out).mono ?_;rintro e w2 ⟨rfl,hb⟩;have B2:=hidI (bel_trans B1.out hb);have Y2:=hidI (bel_trans Y1.out hb);clear hb;skip)
  |(go_at_call 19;refine(G1.out _ BW.out).mono ?_;rintro e w1 ⟨rfl,hb⟩;have B1:=hidI (bel_trans BW.out hb);have Y1:=hidI hb;clear hb;obtain⟨p0,p1,p2,p3,p4,-⟩:=(box_bel Y1.out X3.out).c;skip))
 clear o0 o1 o2 o3 o4 p0 p1 p2 p3 p4 u0
 obtain⟨o0,o1,o2,o3,o4,-⟩:=(box_bel Y4.out X1.out).c
 obtain⟨p0,p1,p2,p3,p4,-⟩:=(box_bel Y4.out X3.out).c
 have u0:w4.cell? ⟨w.heap.size+1,0,none⟩=some (.string ⟨who.toArray⟩):=(by have h9:=blk_bel Y4.out X2.out;simp[World.cell?,h9])
 have CF:Hid (Calls Tryz.prog 21 #[.agg #[.int .i64 t.kind,.int .i64 t.n,.string ⟨t.s.toArray⟩,.slice b1 t.keys.length d1,.slice b2 t.l.length d2],.slice la l.length lc,.string ⟨who.toArray⟩,.agg #[.int .i64 want.kind,.int .i64 want.n,.string ⟨want.s.toArray⟩,.slice a1 want.keys.length c1,.slice a2 want.l.length c2]] w4 fun e w'=>∃ ra rc,e=.returned (.slice ra nf rc)/\w'.ownsRow w4.heap.size 85 2 (.slice ra nf rc) (foundF (blockedF want t (leavesF want)) who l).length (cCells (foundF (blockedF want t (leavesF want)) who l))/\Below w4.heap.size w4 w'):=hidI (by
  refine(conflicts_at w4 _ _ _ t want l who _ _ _ (HT.out.bel B4.out) (HL.out.bel B4.out) (HW.out.bel B4.out) (HM.out.bel B4.out) HN.out HP.out).mono ?_
  rintro e w' ⟨r,rfl,h1,h2⟩
  rw[CC.out]at h1
  rcases h1.2 with⟨rfl,h9⟩ | ⟨g,cap,cur,rfl,h9⟩
  ·exact⟨none,0,by rw[<-NF.out,h9],by rw[<-NF.out];rw[h9]at h1 ⊢;exact h1,h2⟩
  ·exact⟨_,_,by rw[NF.out],by rw[<-NF.out];exact h1,h2⟩)
 go_upto_region 6 with (go_at_call 21;refine CF.out.mono ?_;rintro e w5 ⟨ra,rc,rfl,hrow,hb⟩;have B5:=hidI (bel_trans B4.out hb);have Y5:=hidI (bel_trans Y4.out hb);have ROW:=hidI hrow;have S4:=hidI (Nat.le_trans (show w.heap.size+4<=W3.heap.size from SW.out) Y4.out.size);clear hb hrow)
 clear o0 o1 o2 o3 o4 p0 p1 p2 p3 p4 u0 q0
 obtain⟨p0,p1,p2,p3,p4,-⟩:=(box_bel Y5.out X3.out).c
 have WO:=hidI (wishOf_at w5 (fun k=>ok k/\k < w.heap.size) want _ (by exact HW.out.bel B5.out) (HM.out.bel B5.out))
 go_upto_region 7 with (go_at_call 22;refine WO.out.mono ?_;rintro e w6 ⟨r,rfl,hwi,hb⟩;have B6:=hidI (bel_trans B5.out hb);have Y6:=hidI (bel_trans Y5.out hb);have WI:=hidI hwi;have Y56:=hidI hb;clear hb;obtain⟨x1,x2,x3,y1,y2,y3,rfl,-,-⟩:=hwi)
 clear p0 p1 p2 p3 p4
 obtain⟨W7,hW7⟩:∃ W,W=w6.alloc (.cells #[.int .i64 want.kind,.int .i64 want.n,.string ⟨want.s.toArray⟩,.slice x1 want.keys.length y1,.slice x2 want.l.length y2,.slice x3 (leavesF want).length y3] 53):=⟨_,rfl⟩
 have Y7:Hid (Below w6.heap.size w6 W7):=hidI (by rw[hW7];exact bel_alloc _ _)
 have X7:Hid (W7.heap[w6.heap.size]?=some (.cells #[.int .i64 want.kind,.int .i64 want.n,.string ⟨want.s.toArray⟩,.slice x1 want.keys.length y1,.slice x2 want.l.length y2,.slice x3 (leavesF want).length y3] 53)):=hidI (by rw[hW7];exact heap_alloc_new _ _)
 have B7:=hidI (bel_trans B6.out Y7.out)
 rw[<-hW7]
 clear hW7
 have CAP:Hid (CapI W7 (okN (fun k=>ok k/\k < w.heap.size) w5.heap.size) (fun k=>ok k/\k < w.heap.size) who want t (leavesF want) (w.heap.size+1) w6.heap.size w.heap.size x1 x2 x3 b1 b2 y1 y2 y3 d1 d2):=hidI ⟨by
  have h9:=blk_bel (bel_trans Y6.out Y7.out) X2.out
  simp[World.cell?,h9],X7.out,box_bel (bel_trans Y6.out Y7.out) X1.out,WI.out.bel Y7.out,HT.out.bel B7.out,HM.out.bel B7.out,by have:=AO.out.cT;omega,(leaves_rise want).1,(leaves_rise want).2⟩
 have WI7:Hid (WishIs W7 (fun k=>okN (fun k=>ok k/\k < w.heap.size) w5.heap.size k/\k < W7.heap.size) want (leavesF want) (.agg #[.int .i64 want.kind,.int .i64 want.n,.string ⟨want.s.toArray⟩,.slice x1 want.keys.length y1,.slice x2 want.l.length y2,.slice x3 (leavesF want).length y3])):=hidI (wish_low9 (WI.out.bel Y7.out))
 have KEPT:=hidI (kept_at W7 (fun k=>ok k/\k < w.heap.size) l _ 24 #[.pointer (some ⟨w.heap.size+1,0,none⟩),.pointer (some ⟨w6.heap.size,0,none⟩),.pointer (some ⟨w.heap.size,0,none⟩)] (fun n p=>n != who&&!blockedF want t (leavesF want) p) apply1_enters
  (fun W n p hW hnp=>apply1_at W _ _ who want t (leavesF want) _ _ _ _ _ _ _ _ _ _ _ _ _ n p (CAP.out.bel hW) (by obtain⟨o,ho,-,hx⟩:=allOf_mem hnp;exact HP.out o ho _ hx)) (HL.out.bel B7.out) AO.out.rises HN.out (fun o ho x hx=>by have:=HP.out o ho x hx;unfold maxLen;omega))
 rw[show keptF (fun n p=>n != who&&!blockedF want t (leavesF want) p) l=othersF t want l who from rfl]at KEPT
 go_upto_region 8 with (go_at_call 23;refine KEPT.out.mono ?_;rintro e w8 ⟨oa,oc,rfl,hrow,hb⟩;have Y8:=hidI (bel_trans (bel_trans Y6.out Y7.out) hb);have B8:=hidI (bel_trans B7.out hb);have ORW:=hidI hrow;have B78:=hidI hb;clear hb hrow)
 have VB8:=hidI (box_bel Y8.out X1.out)
 have RB8:=hidI (box_bel Y8.out X4.out)
 have XW8:=hidI (blk_bel B78.out X7.out)
 have NC8:Hid (w8.cell? ⟨w.heap.size+1,0,none⟩=some (.string ⟨who.toArray⟩)):=hidI (by have h9:=blk_bel Y8.out X2.out;simp[World.cell?,h9])
 have OW8:=hidI (ORW.out.owns AO.out.named)
 have WI8:Hid (WishIs w8 (fun k=>okN (fun k=>okN (fun k=>ok k/\k < w.heap.size) w5.heap.size k/\k < W7.heap.size) w8.heap.size k/\k < w8.heap.size) want (leavesF want) (.agg #[.int .i64 want.kind,.int .i64 want.n,.string ⟨want.s.toArray⟩,.slice x1 want.keys.length y1,.slice x2 want.l.length y2,.slice x3 (leavesF want).length y3])):=hidI ((WI7.out.bel B78.out).weak fun k hk=>⟨.inl hk,Nat.lt_of_lt_of_le hk.2 B78.out.size⟩)
 obtain⟨cl,hcl⟩:∃ cl,clearedF (leavesF want) (othersF t want l who) (pathsOfF l who) t=cl:=⟨_,rfl⟩
 have HCL:=hidI hcl
 obtain⟨res,hres⟩:∃ res,laidAllF want (leavesF want) cl=res:=⟨_,rfl⟩
 have HRES:=hidI hres
 have HRF:Hid (resultF t want l who=res):=hidI (by rw[<-hres,<-hcl];rfl)
 clear hcl hres
 go_cut [17] (fun pv wc=>∃ (g7:Nat) (a9 b9:Option Addr) (c9 d9:Nat),pv=.pointer (some ⟨g7,0,none⟩)/\(BoxIs wc g7 (.int .i64 res.kind) (.int .i64 res.n) (.string ⟨res.s.toArray⟩) (.slice a9 res.keys.length c9) (.slice b9 res.l.length d9)/\w8.heap.size<=g7/\Below w8.heap.size w8 wc/\In wc (okN (fun k=>okN (fun k=>ok k/\k < w.heap.size) w5.heap.size k/\k < W7.heap.size) w8.heap.size) res (.agg #[.int .i64 res.kind,.int .i64 res.n,.string ⟨res.s.toArray⟩,.slice a9 res.keys.length c9,.slice b9 res.l.length d9])))
 case first=>
  refine wp_region_T (fun wS=>Below w8.heap.size w8 wS) [10] (by kernel_rfl) (bel_drewN _ 1) (fun hHeld=>?_)
  refine WT.out ?_
  refine tk (i:=0) (d:=59) (v:=?_) [8,10] rfl rfl (by decide +kernel) rfl (fun _ _ _ h=>h) hHeld ?_ ?_
  rotate_left
  ·intro wS hSw
   obtain⟨u0,u1,u2,u3,u4,-⟩:=(box_bel hSw VB8.out).c
   obtain⟨e0,e1,e2,e3,e4,e5⟩:=box6 (blk_bel hSw XW8.out)
   have nm:=cell_bel hSw NC8.out
   go_simp
   all_goals with_reducible rfl
  simp only[aput,List.set]
  refine tk (i:=1) (d:=60) (v:=?_) [7,8,10] rfl rfl (by decide +kernel) rfl (fun _ _ _ h=>h) hHeld ?_ ?_
  rotate_left
  ·intro wS hSw
   obtain⟨u0,u1,u2,u3,u4,-⟩:=(box_bel hSw VB8.out).c
   obtain⟨e0,e1,e2,e3,e4,e5⟩:=box6 (blk_bel hSw XW8.out)
   have nm:=cell_bel hSw NC8.out
   go_simp
   all_goals with_reducible rfl
  simp only[aput,List.set]
  refine tk (i:=2) (d:=61) (v:=?_) [7,8,10] rfl rfl (by decide +kernel) rfl (fun _ _ _ h=>h) hHeld ?_ ?_
  rotate_left
  ·intro wS hSw
   obtain⟨u0,u1,u2,u3,u4,-⟩:=(box_bel hSw VB8.out).c
   obtain⟨e0,e1,e2,e3,e4,e5⟩:=box6 (blk_bel hSw XW8.out)
   have nm:=cell_bel hSw NC8.out
   go_simp
   all_goals with_reducible rfl
  simp only[aput,List.set]
  refine tk (i:=3) (d:=62) (v:=?_) [5,7,8,10] rfl rfl (by decide +kernel) rfl (fun _ _ _ h=>h) hHeld ?_ ?_
  rotate_left
  ·intro wS hSw
   go_simp
   all_goals with_reducible rfl
  simp only[aput,List.set]
  refine tk (i:=4) (d:=63) (v:=?_) [5,7,8,10] rfl rfl (by decide +kernel) rfl (fun _ _ _ h=>h) hHeld ?_ ?_
  rotate_left
  ·intro wS hSw
   obtain⟨u0,u1,u2,u3,u4,-⟩:=(box_bel hSw VB8.out).c
   obtain⟨e0,e1,e2,e3,e4,e5⟩:=box6 (blk_bel hSw XW8.out)
   have nm:=cell_bel hSw NC8.out
   go_simp
   all_goals with_reducible rfl
  simp only[aput,List.set]
  refine tk (i:=6) (d:=65) (v:=?_) [7,8,10] rfl rfl (by decide +kernel) rfl (fun _ _ _ h=>h) hHeld ?_ ?_
  rotate_left
  ·intro wS hSw
   go_simp
   all_goals with_reducible rfl
  simp only[aput,List.set]
  repeat' (first
   | exact nl
   |(refine cns (i:=5) (o:=_) rfl (fun K hK=>?_) ?_
     go_simp
     refine(pathsOf_at _ (fun k=>ok k/\k < w.heap.size) l _ who (by exact(HL.out.bel B8.out).bel hHeld) AO.out.rises (by have:=AO.out.len;omega)).mono ?_
     rintro e w5q ⟨pa,pc,rfl,hst,hb5⟩
     refine hK.out _ _ (bel_trans hHeld hb5) (fun hHeld2=>?_)
     have HADS:=hidI hst
     try replace NB:=hidI (box_bel hb5 NB.out)
     clear hb5 hst
     clear hK K
     replace hHeld:=hHeld2
     clear hHeld2
     try simp only[Act.put,List.setIfInBounds_toArray,List.set_cons_zero,List.set_cons_succ])
   |(refine cns (i:=7) (o:=_) rfl (fun K hK=>?_) ?_
     go_simp
     refine(cleared_at _ (fun k=>okN (fun k=>okN (fun k=>ok k/\k < w.heap.size) w5.heap.size k/\k < W7.heap.size) w8.heap.size k/\k < w8.heap.size) (fun k=>ok k/\k < w.heap.size) (fun k=>W7.heap.size<=k) want t (leavesF want) (pathsOfF l who) (othersF t want l who) _ _ _ _ (by exact WI8.out.bel hHeld) (by exact((HT.out.bel B8.out).bel hHeld).weak fun k hk=>⟨.inl ⟨.inl hk,Nat.lt_of_lt_of_le hk.2 B7.out.size⟩,Nat.lt_of_lt_of_le hk.2 B8.out.size⟩) (by exact HADS.out) (by exact OW8.out.bel hHeld) (by exact(HM.out.bel B8.out).bel hHeld) AO.out.obT AO.out.k5 AO.out.had (leaves_rise want).1 (leaves_rise want).2 AO.out.cT).mono ?_
     rintro e w7q ⟨rv,rfl,hr5,hb5,ho5,hc5,-⟩
     rw[HCL.out]at hr5 ho5 hc5
     obtain⟨a6,b6,c6,d6,rfl⟩:=hr5.form
     have CLO:=hidI ho5
     have CLC:=hidI hc5
     have hS5:=hHeld.size
     refine hK.out _ _ (bel_trans hHeld hb5) (fun hHeld2=>?_)
     first | (have CLI:=hidI (ap_keep NB.out hr5 HG.out hS5)) | (have CLI:=hidI (ap_plain hr5 hS5))
     try replace NB:=hidI (box_bel hb5 NB.out)
     clear hb5 hr5 ho5 hc5 hS5
     clear hK K
     replace hHeld:=hHeld2
     clear hHeld2
     try simp only[Act.put,List.setIfInBounds_toArray,List.set_cons_zero,List.set_cons_succ])
   |(refine cns (i:=8) (o:=_) rfl (fun K hK=>?_) ?_
     go_simp
     refine(laidInto_at _ _ want cl (leavesF want) _ _ (by first | exact ap_wishg WI8.out hHeld HG.out | exact ap_wish WI8.out hHeld) CLI.out (by exact(HM.out.bel B8.out).bel hHeld) CLO.out AO.out.obW AO.out.lv AO.out.lvn CLC.out).mono ?_
     rintro e w8q ⟨rv,rfl,hr5,hb5⟩
     rw[HRES.out]at hr5
     obtain⟨a9,b9,c9,d9,rfl⟩:=hr5.form
     have hS5:=hHeld.size
     refine hK.out _ _ (bel_trans hHeld hb5) (fun hHeld2=>?_)
     first | (have RI:=hidI (ap_keep2 NB.out hr5 hS5)) | (have RI:=hidI (ap_plain2 hr5 hS5))
     try replace NB:=hidI (box_bel hb5 NB.out)
     have CALLED:Hid True:=hidI trivial
     clear hb5 hr5 hS5
     clear hK K
     replace hHeld:=hHeld2
     clear hHeld2
     try simp only[Act.put,List.setIfInBounds_toArray,List.set_cons_zero,List.set_cons_succ])
   |(refine cns (i:=9) (o:=_) rfl (fun K hK=>?_) ?_
     go_simp
     refine hK.out _ _ (bel_trans hHeld (bel_alloc _ _)) (fun hHeld2=>?_)
     have NB:=hidI (ap_znew hHeld)
     have HG:=hidI hHeld.size
     try replace HADS:=hidI (HADS.out.bel (bel_alloc _ (.cells #[.int .i64 0,.int .i64 0,.string ⟨#[]⟩,.slice none 0 0,.slice none 0 0] 25)))
     first | (have c9:=CALLED.out;clear c9;have FINA:=hidI (ap_new hHeld RI.out)) | (replace CLI:=hidI (ap_low CLI.out (.cells #[.int .i64 0,.int .i64 0,.string ⟨#[]⟩,.slice none 0 0,.slice none 0 0] 25))) | skip
     clear hK K
     replace hHeld:=hHeld2
     clear hHeld2
     try simp only[Act.put,List.setIfInBounds_toArray,List.set_cons_zero,List.set_cons_succ])
   |(refine lst (i:=10) (o:=_) (by decide +kernel) rfl (fun K hK=>?_)
     try rw[show (World.drew w8).heap.size=w8.heap.size from rfl]at NB
     obtain⟨n0,n1,n2,n3,n4,m0,m1,m2,m3,m4⟩:=NB.out.c
     first | (have c9:=FINA.out;clear c9) | (have FINB:=hidI (ap_put hHeld HG.out NB.out RI.out))
     go_simp
     refine hK.out _ _ ?_
     clear hK K
     try simp only[Act.put,List.setIfInBounds_toArray,List.set_cons_zero,List.set_cons_succ])
   | refine rdy [5,9] (by decide +kernel) ?_
   | refine rdy [7,9] (by decide +kernel) ?_
   | refine rdy [8,9] (by decide +kernel) ?_
   | refine rdy [9] (by decide +kernel) ?_
   | refine rdy [8] (by decide +kernel) ?_
   | refine rdy [7] (by decide +kernel) ?_
   | refine rdy [5] (by decide +kernel) ?_
   | fail)
  all_goals
   refine dn (by kernel_rfl) ?_
   go_wp2_with fail
   go_meet
   case rel=>first | exact⟨_,_,_,_,_,rfl,FINA.out⟩ | exact⟨_,_,_,_,_,rfl,FINB.out⟩
 case rest=>
  obtain⟨g7,a9,b9,c9,d9,rfl,hcW,hcG,hcB,hcI⟩:=hcut
  have BC:=hidI (bel_trans B8.out hcB)
  have YC:=hidI (bel_trans Y8.out hcB)
  have CI:=hidI hcI
  have CW:=hidI hcW
  have CB:=hidI hcB
  have CG:=hidI hcG
  clear hcW hcG hcB hcI
  have S7:Hid (w.heap.size+4<=w5.heap.size/\w5.heap.size<=W7.heap.size/\W7.heap.size<=w8.heap.size):=hidI ⟨Nat.le_trans SW.out Y5.out.size,Nat.le_trans Y56.out.size Y7.out.size,B78.out.size⟩
  obtain⟨nw,hnw⟩:∃ nw,(withOwnF (othersF t want l who) ⟨who,leavesF want⟩).length=nw:=⟨_,rfl⟩
  have WOW:Hid (Calls Tryz.prog 29 #[.slice oa (othersF t want l who).length oc,.agg #[.string ⟨who.toArray⟩,.slice x3 (leavesF want).length y3]] wc fun e w'=>∃ a c,e=.returned (.slice a nw c)/\OwnsAre w' (fun k=>W7.heap.size<=k\/(fun k=>okN (fun k=>ok k/\k < w.heap.size) w5.heap.size k/\k < W7.heap.size) k) (withOwnF (othersF t want l who) ⟨who,leavesF want⟩) (.slice a nw c)/\wc.grownBy w' (Value.ownBlock (.slice oa (othersF t want l who).length oc))):=hidI (by
   have hq:=withOwner_at wc W7.heap.size (othersF t want l who) (.slice oa (othersF t want l who).length oc) ⟨who,leavesF want⟩ x3 y3 (fun k=>okN (fun k=>ok k/\k < w.heap.size) w5.heap.size k/\k < W7.heap.size) (ORW.out.bel CB.out) AO.out.named AO.out.risesO AO.out.lenO (Nat.le_trans B78.out.size CB.out.size) (by unfold maxLen;show who.length<=_;omega) ((wish_strs WI7.out).bel B78.out |>.bel CB.out) (fun k hk e=>by have h9:=(ORW.out.lt k e.symm).1;have h8:=hk.2;omega)
   rw[hnw]at hq
   exact hq)
  have HNW:=hidI hnw
  clear hnw
  obtain⟨q0,q1,q2,q3,q4,q5⟩:=box6 (blk_bel CB.out XW8.out)
  have u0:=cell_bel CB.out NC8.out
  go_upto_region 10 with (go_at_call 29;refine WOW.out.mono ?_;rintro e w9 ⟨wa,wk,rfl,how,hgw⟩;have OW9:=hidI how;have GW:=hidI hgw;clear how hgw)
  clear q0 q1 q2 q3 q4 q5 u0
  have FAR:Hid (∀ g,Value.ownBlock (.slice oa (othersF t want l who).length oc)=some g->W7.heap.size<=g/\g < w8.heap.size):=hidI (fun g hg=>ORW.out.lt g hg)
  have Y9:Hid (Below W3.heap.size W3 w9):=hidI (gb_far YC.out GW.out fun g hg=>by have h9:=(FAR.out g hg).1;have h8:=S7.out;have h7:=Y5.out.size;omega)
  have B9:=hidI (bel_trans BW.out Y9.out)
  have RB9:Hid (BoxIs w9 g7 (.int .i64 res.kind) (.int .i64 res.n) (.string ⟨res.s.toArray⟩) (.slice a9 res.keys.length c9) (.slice b9 res.l.length d9)):=hidI (by
   have h9:=(Array.getElem?_eq_some_iff.1 CW.out).1
   exact(GW.out.block g7 h9 fun e=>by have h8:=(FAR.out g7 e.symm).2;have h7:=CG.out;omega).trans CW.out)
  have RI9:Hid (In w9 (okN (fun k=>okN (fun k=>ok k/\k < w.heap.size) w5.heap.size k/\k < W7.heap.size) w8.heap.size) res (.agg #[.int .i64 res.kind,.int .i64 res.n,.string ⟨res.s.toArray⟩,.slice a9 res.keys.length c9,.slice b9 res.l.length d9])):=hidI (CI.out.grownR GW.out fun k hk e=>by
   have h8:=FAR.out k e.symm
   rcases hk with hk | hk
   ·have:=hk.2;omega
   ·omega)
  have OKF:Hid (∀ k,(okN (fun k=>okN (fun k=>ok k/\k < w.heap.size) w5.heap.size k/\k < W7.heap.size) w8.heap.size) k->k≠w.heap.size+3):=hidI (fun k hk=>by
   have h8:=S7.out
   rcases hk with⟨hk | hk,-⟩ | hk
   ·have:=hk.2;omega
   ·omega
   ·omega)
  have OKS:Hid (∀ k,(okN (fun k=>okN (fun k=>ok k/\k < w.heap.size) w5.heap.size k/\k < W7.heap.size) w8.heap.size) k->okN ok w.heap.size k):=hidI (fun k hk=>by
   have h8:=S7.out
   rcases hk with⟨hk | hk,-⟩ | hk
   ·exact .inl hk.1
   ·exact .inr (by omega)
   ·exact .inr (by omega))
  have OKF2:Hid (∀ k,(W7.heap.size<=k\/(fun k=>okN (fun k=>ok k/\k < w.heap.size) w5.heap.size k/\k < W7.heap.size) k)->k≠w.heap.size+3):=hidI (fun k hk=>by
   have h8:=S7.out
   rcases hk with hk | ⟨hk | hk,-⟩
   ·omega
   ·have:=hk.2;omega
   ·omega)
  have OKS2:Hid (∀ k,(W7.heap.size<=k\/(fun k=>okN (fun k=>ok k/\k < w.heap.size) w5.heap.size k/\k < W7.heap.size) k)->okN ok w.heap.size k):=hidI (fun k hk=>by
   have h8:=S7.out
   rcases hk with hk | ⟨hk | hk,-⟩
   ·exact .inr (by omega)
   ·exact .inl hk.1
   ·exact .inr (by omega))
  have GR:Hid (Calls Tryz.prog 13 #[.agg #[.int .i64 res.kind,.int .i64 res.n,.string ⟨res.s.toArray⟩,.slice a9 res.keys.length c9,.slice b9 res.l.length d9]] w9 fun e w'=>e=.returned (.bool (goodV res))/\Below w9.heap.size w9 w'):=hidI (good_is w9 _ res _ RI9.out)
  obtain⟨q0,q1,q2,q3,q4,-⟩:=RB9.out.c
  have HRR:Hid (applyF t l who want force=if goodV res=true/\nw<=6 then (res,withOwnF (othersF t want l who) ⟨who,leavesF want⟩,[],0) else (t,l,[],2)):=hidI (by
   rw[RA.out,HRF.out,HNW.out])
  cases hgv:goodV res with
  | false=>
   have R:Hid (applyF t l who want force=(t,l,[],2)):=hidI (by rw[HRR.out,if_neg (by rw[hgv];simp)])
   rw[hgv]at GR
   clear hgv
   go_upto_region 11 with (go_at_call 13;refine GR.out.mono ?_;rintro e w10 ⟨rfl,hb⟩;have Y10:=hidI (bel_trans Y9.out hb);have B10:=hidI (bel_trans B9.out hb);clear hb)
   clear q0 q1 q2 q3 q4
   obtain⟨v0,v1,v2,v3,v4,-⟩:=(box_bel Y10.out X1.out).c
   obtain⟨n0,n1,n2,n3,n4,m0,m1,m2,m3,m4⟩:=(box_bel Y10.out X4.out).c
   have ZB:=hidI ((box_bel Y10.out X4.out).set (.int .i64 t.kind) (.int .i64 t.n) (.string ⟨t.s.toArray⟩) (.slice b1 t.keys.length d1) (.slice b2 t.l.length d2))
   have BF:=hidI (bel_set5 (g:=w.heap.size+3) B10.out (by omega) (.int .i64 t.kind) (.int .i64 t.n) (.string ⟨t.s.toArray⟩) (.slice b1 t.keys.length d1) (.slice b2 t.l.length d2))
   go_wp2_with fail
   obtain⟨z0,z1,z2,z3,z4,-⟩:=ZB.out.c
   refine bodyPost_ret (v:=.tuple #[.agg #[.int .i64 t.kind,.int .i64 t.n,.string ⟨t.s.toArray⟩,.slice b1 t.keys.length d1,.slice b2 t.l.length d2],.slice la l.length lc,.slice none 0 0,.int .i64 2]) ?_ rfl ?_
   ·simp only[set5]at z0 z1 z2 z3 z4
    simp[results,Tryz.results6,go_sem,z0,z1,z2,z3,z4]
   ·rw[ApplyIs,R.out]
    exact⟨_,_,_,rfl,(HT.out.belB (fun k h=>h.2) BF.out).weak fun k h=>.inl h.1,(HL.out.belB (fun k h=>h.2) BF.out).weak fun k h=>.inl h.1,World.ownsRow_nil _ _ _ _,BF.out⟩
  | true=>
   rw[hgv]at GR
   by_cases h6:nw<=6
   ·have RR:Hid (applyF t l who want force=(res,withOwnF (othersF t want l who) ⟨who,leavesF want⟩,[],0)):=hidI (by rw[HRR.out,if_pos ⟨hgv,h6⟩])
    have q6:¬(6:Int) < (nw:Int):=by omega
    clear hgv h6
    go_upto_region 12 with (go_at_call 13;refine GR.out.mono ?_;rintro e w10 ⟨rfl,hb⟩;have Y10:=hidI (bel_trans Y9.out hb);have B10:=hidI (bel_trans B9.out hb);have RB10:=hidI (box_bel hb RB9.out);have RI10:=hidI (RI9.out.bel hb);have OW10:=hidI (OW9.out.bel hb);clear hb)
    clear q0 q1 q2 q3 q4 q6
    obtain⟨v0,v1,v2,v3,v4,-⟩:=RB10.out.c
    obtain⟨n0,n1,n2,n3,n4,m0,m1,m2,m3,m4⟩:=(box_bel Y10.out X4.out).c
    have ZB:=hidI ((box_bel Y10.out X4.out).set (.int .i64 res.kind) (.int .i64 res.n) (.string ⟨res.s.toArray⟩) (.slice a9 res.keys.length c9) (.slice b9 res.l.length d9))
    have BF:=hidI (bel_set5 (g:=w.heap.size+3) B10.out (by omega) (.int .i64 res.kind) (.int .i64 res.n) (.string ⟨res.s.toArray⟩) (.slice a9 res.keys.length c9) (.slice b9 res.l.length d9))
    have GF:=hidI (set5_gb w10 (w.heap.size+3) (.int .i64 res.kind) (.int .i64 res.n) (.string ⟨res.s.toArray⟩) (.slice a9 res.keys.length c9) (.slice b9 res.l.length d9))
    go_wp2_with fail
    obtain⟨z0,z1,z2,z3,z4,-⟩:=ZB.out.c
    refine bodyPost_ret (v:=.tuple #[.agg #[.int .i64 res.kind,.int .i64 res.n,.string ⟨res.s.toArray⟩,.slice a9 res.keys.length c9,.slice b9 res.l.length d9],.slice wa nw wk,.slice none 0 0,.int .i64 0]) ?_ rfl ?_
    ·simp only[set5]at z0 z1 z2 z3 z4
     simp[results,Tryz.results6,go_sem,z0,z1,z2,z3,z4]
    ·rw[ApplyIs,RR.out]
     refine⟨_,_,_,rfl,(RI10.out.grownR GF.out fun k hk e=>?_).weak fun k hk=>?_,(OW10.out.grownR GF.out fun k hk e=>?_).weak fun k hk=>?_,World.ownsRow_nil _ _ _ _,BF.out⟩
     ·cases e;exact OKF.out _ hk rfl
     ·exact OKS.out _ hk
     ·cases e;exact OKF2.out _ hk rfl
     ·exact OKS2.out _ hk
   ·have R:Hid (applyF t l who want force=(t,l,[],2)):=hidI (by rw[HRR.out,if_neg (by intro h;exact h6 h.2)])
    have q6:(6:Int) < (nw:Int):=by omega
    clear hgv h6
    go_upto_region 11 with (go_at_call 13;refine GR.out.mono ?_;rintro e w10 ⟨rfl,hb⟩;have Y10:=hidI (bel_trans Y9.out hb);have B10:=hidI (bel_trans B9.out hb);clear hb)
    clear q0 q1 q2 q3 q4 q6
    obtain⟨v0,v1,v2,v3,v4,-⟩:=(box_bel Y10.out X1.out).c
    obtain⟨n0,n1,n2,n3,n4,m0,m1,m2,m3,m4⟩:=(box_bel Y10.out X4.out).c
    have ZB:=hidI ((box_bel Y10.out X4.out).set (.int .i64 t.kind) (.int .i64 t.n) (.string ⟨t.s.toArray⟩) (.slice b1 t.keys.length d1) (.slice b2 t.l.length d2))
    have BF:=hidI (bel_set5 (g:=w.heap.size+3) B10.out (by omega) (.int .i64 t.kind) (.int .i64 t.n) (.string ⟨t.s.toArray⟩) (.slice b1 t.keys.length d1) (.slice b2 t.l.length d2))
    go_wp2_with fail
    obtain⟨z0,z1,z2,z3,z4,-⟩:=ZB.out.c
    refine bodyPost_ret (v:=.tuple #[.agg #[.int .i64 t.kind,.int .i64 t.n,.string ⟨t.s.toArray⟩,.slice b1 t.keys.length d1,.slice b2 t.l.length d2],.slice la l.length lc,.slice none 0 0,.int .i64 2]) ?_ rfl ?_
    ·simp only[set5]at z0 z1 z2 z3 z4
     simp[results,Tryz.results6,go_sem,z0,z1,z2,z3,z4]
    ·rw[ApplyIs,R.out]
     exact⟨_,_,_,rfl,(HT.out.belB (fun k h=>h.2) BF.out).weak fun k h=>.inl h.1,(HL.out.belB (fun k h=>h.2) BF.out).weak fun k h=>.inl h.1,World.ownsRow_nil _ _ _ _,BF.out⟩
set_option maxRecDepth 100000 in
set_option maxHeartbeats 4000000 in
theorem apply_force (w:World) (ok:Nat->Prop) (t want:V) (l:List Own) (who:List UInt8) (force:Bool) (vt vl vw:Value) (ht:In w ok t vt) (hl:OwnsAre w ok l vl) (hw:In w ok want vw) (hM:GlobM w) (hN:(allOf l).length<=4000000) (hP:∀ o∈l,∀ x∈o.paths,x.length<=140737488351232) (hwho:who.length<=9223372036854775807) (hg1:(decide (t.kind=5)&&goodV t)=true) (hg2:(decide (want.kind=5)&&goodV want)=true) (hg3:goodOs l=true) (hg4:namedB who=true) (hf:foundF (blockedF want t (leavesF want)) who l≠[]) (hfo:force=true) (hao:ApplyOk t want l who) :
 Calls Tryz.prog 6 #[vt,vl,.string ⟨who.toArray⟩,vw,.bool force] w fun e w'=>ApplyIs w w' ok (applyF t l who want force) e:=by
 have AO:=hidI hao
 have CC:Hid (confF t l who want=foundF (blockedF want t (leavesF want)) who l):=hidI (by rw[confF,if_pos ⟨by simpa using (Bool.and_eq_true_iff.1 hg1).2,hg3⟩])
 obtain⟨nf,hnf⟩:∃ nf,(foundF (blockedF want t (leavesF want)) who l).length=nf:=⟨_,rfl⟩
 have NF:=hidI hnf
 have RA:Hid (applyF t l who want force=if goodV (resultF t want l who)=true/\(withOwnF (othersF t want l who) ⟨who,leavesF want⟩).length<=6 then (resultF t want l who,withOwnF (othersF t want l who) ⟨who,leavesF want⟩,[],0) else (t,l,[],2)):=hidI (by
  unfold applyF
  rw[if_pos ⟨by simpa using hg1,by simpa using hg2,hg3,hg4⟩,if_neg (by intro h;rw[hfo]at h;exact absurd h.2 (by simp))])
 have q0:(0:Int) < (nf:Int):=by
  have:nf≠0:=fun e=>hf (List.length_eq_zero_iff.1 (hnf.trans e))
  omega
 subst hfo
 clear hnf hao
 have HT:=hidI ht.low
 have HL:=hidI hl.low
 have HW:=hidI hw.low
 have HM:=hidI hM
 have HN:=hidI hN
 have HP:=hidI hP
 obtain⟨b1,b2,d1,d2,rfl⟩:=ht.form
 obtain⟨a1,a2,c1,c2,rfl⟩:=hw.form
 obtain⟨la,lc,rfl⟩:=hl.form
 have ll:=hl.1
 unfold maxLen at ll
 clear ht hl hw hM hN hP
 obtain⟨W3,hW3⟩:∃ W,W=(((w.alloc (.cells #[.int .i64 t.kind,.int .i64 t.n,.string ⟨t.s.toArray⟩,.slice b1 t.keys.length d1,.slice b2 t.l.length d2] 25)).alloc (.cells #[.string ⟨who.toArray⟩] 9)).alloc (.cells #[.int .i64 want.kind,.int .i64 want.n,.string ⟨want.s.toArray⟩,.slice a1 want.keys.length c1,.slice a2 want.l.length c2] 25)).alloc (.cells #[.int .i64 0,.int .i64 0,.string ⟨#[]⟩,.slice none 0 0,.slice none 0 0] 25):=⟨_,rfl⟩
 have BW:Hid (Below w.heap.size w W3):=hidI (by rw[hW3];exact bel_trans (bel_trans (bel_trans (bel_alloc _ _) (bel_alloc _ _)) (bel_alloc _ _)) (bel_alloc _ _))
 have X1:Hid (BoxIs W3 w.heap.size (.int .i64 t.kind) (.int .i64 t.n) (.string ⟨t.s.toArray⟩) (.slice b1 t.keys.length d1) (.slice b2 t.l.length d2)):=hidI (by rw[hW3];exact h4z _ _ _ _ _ (h3a _ _ _ _))
 have X2:Hid (W3.heap[w.heap.size+1]?=some (.cells #[.string ⟨who.toArray⟩] 9)):=hidI (by rw[hW3];exact h4z _ _ _ _ _ (h3b _ _ _ _))
 have X3:Hid (BoxIs W3 (w.heap.size+2) (.int .i64 want.kind) (.int .i64 want.n) (.string ⟨want.s.toArray⟩) (.slice a1 want.keys.length c1) (.slice a2 want.l.length c2)):=hidI (by rw[hW3];exact h4z _ _ _ _ _ (h3c _ _ _ _))
 have X4:Hid (BoxIs W3 (w.heap.size+3) (.int .i64 0) (.int .i64 0) (.string ⟨#[]⟩) (.slice none 0 0) (.slice none 0 0)):=hidI (by rw[hW3];exact h4dO _ _ _ _ _)
 have HW3:=hidI hW3
 clear hW3
 have G1:Hid (∀ W,Below w.heap.size w W->Calls Tryz.prog 19 #[.agg #[.int .i64 t.kind,.int .i64 t.n,.string ⟨t.s.toArray⟩,.slice b1 t.keys.length d1,.slice b2 t.l.length d2]] W fun e w'=>e=.returned (.bool (decide (t.kind=5)&&goodV t))/\Below W.heap.size W w'):=hidI (fun W hW=>goodObject_at W _ t _ (HT.out.bel hW))
 have G2:Hid (∀ W,Below w.heap.size w W->Calls Tryz.prog 19 #[.agg #[.int .i64 want.kind,.int .i64 want.n,.string ⟨want.s.toArray⟩,.slice a1 want.keys.length c1,.slice a2 want.l.length c2]] W fun e w'=>e=.returned (.bool (decide (want.kind=5)&&goodV want))/\Below W.heap.size W w'):=hidI (fun W hW=>goodObject_at W _ want _ (HW.out.bel hW))
 have G3:Hid (∀ W,Below w.heap.size w W->Calls Tryz.prog 12 #[.slice la l.length lc] W fun e w'=>e=.returned (.bool (goodOs l))/\Below W.heap.size W w'):=hidI (fun W hW=>goodOwners_at W _ l _ (HL.out.bel hW) HP.out (HM.out.bel hW))
 have G4:Hid (∀ W,Below w.heap.size w W->Calls Tryz.prog 20 #[.string ⟨who.toArray⟩] W fun e w'=>e=.returned (.bool (namedB who))/\Below W.heap.size W w'):=hidI (fun W _=>(named_at W who hwho).mono fun e w' h=>⟨h.1,h.2 ▸ Below.refl _ _⟩)
 have SW:Hid (w.heap.size+4<=W3.heap.size):=hidI (by have:=(Array.getElem?_eq_some_iff.1 X4.out).1;omega)
 rw[hg1]at G1
 rw[hg2]at G2
 rw[hg3]at G3
 rw[hg4]at G4
 clear hg1 hg2 hg3 hg4
 obtain⟨o0,o1,o2,o3,o4,-⟩:=X1.out.c
 go_enter Tryz.func6,Tryz.ntmps6
 go_upto_region 1 with fail
 rw[<-HW3.out]
 go_upto_region 3 with (first
  |(go_at_call 20;refine(G4.out _ B3.out).mono ?_;rintro e w4 ⟨rfl,hb⟩;have B4:=hidI (bel_trans B3.out hb);have Y4:=hidI (bel_trans Y3.out hb);clear hb;skip)
  |(go_at_call 12;refine(G3.out _ B2.out).mono ?_;rintro e w3 ⟨rfl,hb⟩;have B3:=hidI (bel_trans B2.out hb);have Y3:=hidI (bel_trans Y2.out hb);clear hb;have u0:w3.cell? ⟨w.heap.size+1,0,none⟩=some (.string ⟨who.toArray⟩):=(by have h9:=blk_bel Y3.out X2.out;simp[World.cell?,h9]);skip)
  |(go_at_call 19;refine(G2.out _ B1.out).mono ?_;rintro e w2 ⟨rfl,hb⟩;have B2:=hidI (bel_trans B1.out hb);have Y2:=hidI (bel_trans Y1.out hb);clear hb;skip)
  |(go_at_call 19;refine(G1.out _ BW.out).mono ?_;rintro e w1 ⟨rfl,hb⟩;have B1:=hidI (bel_trans BW.out hb);have Y1:=hidI hb;clear hb;obtain⟨p0,p1,p2,p3,p4,-⟩:=(box_bel Y1.out X3.out).c;skip))
 clear o0 o1 o2 o3 o4 p0 p1 p2 p3 p4 u0
 obtain⟨o0,o1,o2,o3,o4,-⟩:=(box_bel Y4.out X1.out).c
 obtain⟨p0,p1,p2,p3,p4,-⟩:=(box_bel Y4.out X3.out).c
 have u0:w4.cell? ⟨w.heap.size+1,0,none⟩=some (.string ⟨who.toArray⟩):=(by have h9:=blk_bel Y4.out X2.out;simp[World.cell?,h9])
 have CF:Hid (Calls Tryz.prog 21 #[.agg #[.int .i64 t.kind,.int .i64 t.n,.string ⟨t.s.toArray⟩,.slice b1 t.keys.length d1,.slice b2 t.l.length d2],.slice la l.length lc,.string ⟨who.toArray⟩,.agg #[.int .i64 want.kind,.int .i64 want.n,.string ⟨want.s.toArray⟩,.slice a1 want.keys.length c1,.slice a2 want.l.length c2]] w4 fun e w'=>∃ ra rc,e=.returned (.slice ra nf rc)/\w'.ownsRow w4.heap.size 85 2 (.slice ra nf rc) (foundF (blockedF want t (leavesF want)) who l).length (cCells (foundF (blockedF want t (leavesF want)) who l))/\Below w4.heap.size w4 w'):=hidI (by
  refine(conflicts_at w4 _ _ _ t want l who _ _ _ (HT.out.bel B4.out) (HL.out.bel B4.out) (HW.out.bel B4.out) (HM.out.bel B4.out) HN.out HP.out).mono ?_
  rintro e w' ⟨r,rfl,h1,h2⟩
  rw[CC.out]at h1
  rcases h1.2 with⟨rfl,h9⟩ | ⟨g,cap,cur,rfl,h9⟩
  ·exact⟨none,0,by rw[<-NF.out,h9],by rw[<-NF.out];rw[h9]at h1 ⊢;exact h1,h2⟩
  ·exact⟨_,_,by rw[NF.out],by rw[<-NF.out];exact h1,h2⟩)
 go_upto_region 6 with (go_at_call 21;refine CF.out.mono ?_;rintro e w5 ⟨ra,rc,rfl,hrow,hb⟩;have B5:=hidI (bel_trans B4.out hb);have Y5:=hidI (bel_trans Y4.out hb);have ROW:=hidI hrow;have S4:=hidI (Nat.le_trans (show w.heap.size+4<=W3.heap.size from SW.out) Y4.out.size);clear hb hrow)
 clear o0 o1 o2 o3 o4 p0 p1 p2 p3 p4 u0 q0
 obtain⟨p0,p1,p2,p3,p4,-⟩:=(box_bel Y5.out X3.out).c
 have WO:=hidI (wishOf_at w5 (fun k=>ok k/\k < w.heap.size) want _ (by exact HW.out.bel B5.out) (HM.out.bel B5.out))
 go_upto_region 7 with (go_at_call 22;refine WO.out.mono ?_;rintro e w6 ⟨r,rfl,hwi,hb⟩;have B6:=hidI (bel_trans B5.out hb);have Y6:=hidI (bel_trans Y5.out hb);have WI:=hidI hwi;have Y56:=hidI hb;clear hb;obtain⟨x1,x2,x3,y1,y2,y3,rfl,-,-⟩:=hwi)
 clear p0 p1 p2 p3 p4
 obtain⟨W7,hW7⟩:∃ W,W=w6.alloc (.cells #[.int .i64 want.kind,.int .i64 want.n,.string ⟨want.s.toArray⟩,.slice x1 want.keys.length y1,.slice x2 want.l.length y2,.slice x3 (leavesF want).length y3] 53):=⟨_,rfl⟩
 have Y7:Hid (Below w6.heap.size w6 W7):=hidI (by rw[hW7];exact bel_alloc _ _)
 have X7:Hid (W7.heap[w6.heap.size]?=some (.cells #[.int .i64 want.kind,.int .i64 want.n,.string ⟨want.s.toArray⟩,.slice x1 want.keys.length y1,.slice x2 want.l.length y2,.slice x3 (leavesF want).length y3] 53)):=hidI (by rw[hW7];exact heap_alloc_new _ _)
 have B7:=hidI (bel_trans B6.out Y7.out)
 rw[<-hW7]
 clear hW7
 have CAP:Hid (CapI W7 (okN (fun k=>ok k/\k < w.heap.size) w5.heap.size) (fun k=>ok k/\k < w.heap.size) who want t (leavesF want) (w.heap.size+1) w6.heap.size w.heap.size x1 x2 x3 b1 b2 y1 y2 y3 d1 d2):=hidI ⟨by
  have h9:=blk_bel (bel_trans Y6.out Y7.out) X2.out
  simp[World.cell?,h9],X7.out,box_bel (bel_trans Y6.out Y7.out) X1.out,WI.out.bel Y7.out,HT.out.bel B7.out,HM.out.bel B7.out,by have:=AO.out.cT;omega,(leaves_rise want).1,(leaves_rise want).2⟩
 have WI7:Hid (WishIs W7 (fun k=>okN (fun k=>ok k/\k < w.heap.size) w5.heap.size k/\k < W7.heap.size) want (leavesF want) (.agg #[.int .i64 want.kind,.int .i64 want.n,.string ⟨want.s.toArray⟩,.slice x1 want.keys.length y1,.slice x2 want.l.length y2,.slice x3 (leavesF want).length y3])):=hidI (wish_low9 (WI.out.bel Y7.out))
 have KEPT:=hidI (kept_at W7 (fun k=>ok k/\k < w.heap.size) l _ 24 #[.pointer (some ⟨w.heap.size+1,0,none⟩),.pointer (some ⟨w6.heap.size,0,none⟩),.pointer (some ⟨w.heap.size,0,none⟩)] (fun n p=>n != who&&!blockedF want t (leavesF want) p) apply1_enters
  (fun W n p hW hnp=>apply1_at W _ _ who want t (leavesF want) _ _ _ _ _ _ _ _ _ _ _ _ _ n p (CAP.out.bel hW) (by obtain⟨o,ho,-,hx⟩:=allOf_mem hnp;exact HP.out o ho _ hx)) (HL.out.bel B7.out) AO.out.rises HN.out (fun o ho x hx=>by have:=HP.out o ho x hx;unfold maxLen;omega))
 rw[show keptF (fun n p=>n != who&&!blockedF want t (leavesF want) p) l=othersF t want l who from rfl]at KEPT
 go_upto_region 8 with (go_at_call 23;refine KEPT.out.mono ?_;rintro e w8 ⟨oa,oc,rfl,hrow,hb⟩;have Y8:=hidI (bel_trans (bel_trans Y6.out Y7.out) hb);have B8:=hidI (bel_trans B7.out hb);have ORW:=hidI hrow;have B78:=hidI hb;clear hb hrow)
 have VB8:=hidI (box_bel Y8.out X1.out)
 have RB8:=hidI (box_bel Y8.out X4.out)
 have XW8:=hidI (blk_bel B78.out X7.out)
 have NC8:Hid (w8.cell? ⟨w.heap.size+1,0,none⟩=some (.string ⟨who.toArray⟩)):=hidI (by have h9:=blk_bel Y8.out X2.out;simp[World.cell?,h9])
 have OW8:=hidI (ORW.out.owns AO.out.named)
 have WI8:Hid (WishIs w8 (fun k=>okN (fun k=>okN (fun k=>ok k/\k < w.heap.size) w5.heap.size k/\k < W7.heap.size) w8.heap.size k/\k < w8.heap.size) want (leavesF want) (.agg #[.int .i64 want.kind,.int .i64 want.n,.string ⟨want.s.toArray⟩,.slice x1 want.keys.length y1,.slice x2 want.l.length y2,.slice x3 (leavesF want).length y3])):=hidI ((WI7.out.bel B78.out).weak fun k hk=>⟨.inl hk,Nat.lt_of_lt_of_le hk.2 B78.out.size⟩)
 obtain⟨cl,hcl⟩:∃ cl,clearedF (leavesF want) (othersF t want l who) (pathsOfF l who) t=cl:=⟨_,rfl⟩
 have HCL:=hidI hcl
 obtain⟨res,hres⟩:∃ res,laidAllF want (leavesF want) cl=res:=⟨_,rfl⟩
 have HRES:=hidI hres
 have HRF:Hid (resultF t want l who=res):=hidI (by rw[<-hres,<-hcl];rfl)
 clear hcl hres
 go_cut [17] (fun pv wc=>∃ (g7:Nat) (a9 b9:Option Addr) (c9 d9:Nat),pv=.pointer (some ⟨g7,0,none⟩)/\(BoxIs wc g7 (.int .i64 res.kind) (.int .i64 res.n) (.string ⟨res.s.toArray⟩) (.slice a9 res.keys.length c9) (.slice b9 res.l.length d9)/\w8.heap.size<=g7/\Below w8.heap.size w8 wc/\In wc (okN (fun k=>okN (fun k=>ok k/\k < w.heap.size) w5.heap.size k/\k < W7.heap.size) w8.heap.size) res (.agg #[.int .i64 res.kind,.int .i64 res.n,.string ⟨res.s.toArray⟩,.slice a9 res.keys.length c9,.slice b9 res.l.length d9])))
 case first=>
  refine wp_region_T (fun wS=>Below w8.heap.size w8 wS) [10] (by kernel_rfl) (bel_drewN _ 1) (fun hHeld=>?_)
  refine WT.out ?_
  refine tk (i:=0) (d:=59) (v:=?_) [8,10] rfl rfl (by decide +kernel) rfl (fun _ _ _ h=>h) hHeld ?_ ?_
  rotate_left
  ·intro wS hSw
   obtain⟨u0,u1,u2,u3,u4,-⟩:=(box_bel hSw VB8.out).c
   obtain⟨e0,e1,e2,e3,e4,e5⟩:=box6 (blk_bel hSw XW8.out)
   have nm:=cell_bel hSw NC8.out
   go_simp
   all_goals with_reducible rfl
  simp only[aput,List.set]
  refine tk (i:=1) (d:=60) (v:=?_) [7,8,10] rfl rfl (by decide +kernel) rfl (fun _ _ _ h=>h) hHeld ?_ ?_
  rotate_left
  ·intro wS hSw
   obtain⟨u0,u1,u2,u3,u4,-⟩:=(box_bel hSw VB8.out).c
   obtain⟨e0,e1,e2,e3,e4,e5⟩:=box6 (blk_bel hSw XW8.out)
   have nm:=cell_bel hSw NC8.out
   go_simp
   all_goals with_reducible rfl
  simp only[aput,List.set]
  refine tk (i:=2) (d:=61) (v:=?_) [7,8,10] rfl rfl (by decide +kernel) rfl (fun _ _ _ h=>h) hHeld ?_ ?_
  rotate_left
  ·intro wS hSw
   obtain⟨u0,u1,u2,u3,u4,-⟩:=(box_bel hSw VB8.out).c
   obtain⟨e0,e1,e2,e3,e4,e5⟩:=box6 (blk_bel hSw XW8.out)
   have nm:=cell_bel hSw NC8.out
   go_simp
   all_goals with_reducible rfl
  simp only[aput,List.set]
  refine tk (i:=3) (d:=62) (v:=?_) [5,7,8,10] rfl rfl (by decide +kernel) rfl (fun _ _ _ h=>h) hHeld ?_ ?_
  rotate_left
  ·intro wS hSw
   go_simp
   all_goals with_reducible rfl
  simp only[aput,List.set]
  refine tk (i:=4) (d:=63) (v:=?_) [5,7,8,10] rfl rfl (by decide +kernel) rfl (fun _ _ _ h=>h) hHeld ?_ ?_
  rotate_left
  ·intro wS hSw
   obtain⟨u0,u1,u2,u3,u4,-⟩:=(box_bel hSw VB8.out).c
   obtain⟨e0,e1,e2,e3,e4,e5⟩:=box6 (blk_bel hSw XW8.out)
   have nm:=cell_bel hSw NC8.out
   go_simp
   all_goals with_reducible rfl
  simp only[aput,List.set]
  refine tk (i:=6) (d:=65) (v:=?_) [7,8,10] rfl rfl (by decide +kernel) rfl (fun _ _ _ h=>h) hHeld ?_ ?_
  rotate_left
  ·intro wS hSw
   go_simp
   all_goals with_reducible rfl
  simp only[aput,List.set]
  repeat' (first
   | exact nl
   |(refine cns (i:=5) (o:=_) rfl (fun K hK=>?_) ?_
     go_simp
     refine(pathsOf_at _ (fun k=>ok k/\k < w.heap.size) l _ who (by exact(HL.out.bel B8.out).bel hHeld) AO.out.rises (by have:=AO.out.len;omega)).mono ?_
     rintro e w5q ⟨pa,pc,rfl,hst,hb5⟩
     refine hK.out _ _ (bel_trans hHeld hb5) (fun hHeld2=>?_)
     have HADS:=hidI hst
     try replace NB:=hidI (box_bel hb5 NB.out)
     clear hb5 hst
     clear hK K
     replace hHeld:=hHeld2
     clear hHeld2
     try simp only[Act.put,List.setIfInBounds_toArray,List.set_cons_zero,List.set_cons_succ])
   |(refine cns (i:=7) (o:=_) rfl (fun K hK=>?_) ?_
     go_simp
     refine(cleared_at _ (fun k=>okN (fun k=>okN (fun k=>ok k/\k < w.heap.size) w5.heap.size k/\k < W7.heap.size) w8.heap.size k/\k < w8.heap.size) (fun k=>ok k/\k < w.heap.size) (fun k=>W7.heap.size<=k) want t (leavesF want) (pathsOfF l who) (othersF t want l who) _ _ _ _ (by exact WI8.out.bel hHeld) (by exact((HT.out.bel B8.out).bel hHeld).weak fun k hk=>⟨.inl ⟨.inl hk,Nat.lt_of_lt_of_le hk.2 B7.out.size⟩,Nat.lt_of_lt_of_le hk.2 B8.out.size⟩) (by exact HADS.out) (by exact OW8.out.bel hHeld) (by exact(HM.out.bel B8.out).bel hHeld) AO.out.obT AO.out.k5 AO.out.had (leaves_rise want).1 (leaves_rise want).2 AO.out.cT).mono ?_
     rintro e w7q ⟨rv,rfl,hr5,hb5,ho5,hc5,-⟩
     rw[HCL.out]at hr5 ho5 hc5
     obtain⟨a6,b6,c6,d6,rfl⟩:=hr5.form
     have CLO:=hidI ho5
     have CLC:=hidI hc5
     have hS5:=hHeld.size
     refine hK.out _ _ (bel_trans hHeld hb5) (fun hHeld2=>?_)
     first | (have CLI:=hidI (ap_keep NB.out hr5 HG.out hS5)) | (have CLI:=hidI (ap_plain hr5 hS5))
     try replace NB:=hidI (box_bel hb5 NB.out)
     clear hb5 hr5 ho5 hc5 hS5
     clear hK K
     replace hHeld:=hHeld2
     clear hHeld2
     try simp only[Act.put,List.setIfInBounds_toArray,List.set_cons_zero,List.set_cons_succ])
   |(refine cns (i:=8) (o:=_) rfl (fun K hK=>?_) ?_
     go_simp
     refine(laidInto_at _ _ want cl (leavesF want) _ _ (by first | exact ap_wishg WI8.out hHeld HG.out | exact ap_wish WI8.out hHeld) CLI.out (by exact(HM.out.bel B8.out).bel hHeld) CLO.out AO.out.obW AO.out.lv AO.out.lvn CLC.out).mono ?_
     rintro e w8q ⟨rv,rfl,hr5,hb5⟩
     rw[HRES.out]at hr5
     obtain⟨a9,b9,c9,d9,rfl⟩:=hr5.form
     have hS5:=hHeld.size
     refine hK.out _ _ (bel_trans hHeld hb5) (fun hHeld2=>?_)
     first | (have RI:=hidI (ap_keep2 NB.out hr5 hS5)) | (have RI:=hidI (ap_plain2 hr5 hS5))
     try replace NB:=hidI (box_bel hb5 NB.out)
     have CALLED:Hid True:=hidI trivial
     clear hb5 hr5 hS5
     clear hK K
     replace hHeld:=hHeld2
     clear hHeld2
     try simp only[Act.put,List.setIfInBounds_toArray,List.set_cons_zero,List.set_cons_succ])
   |(refine cns (i:=9) (o:=_) rfl (fun K hK=>?_) ?_
     go_simp
     refine hK.out _ _ (bel_trans hHeld (bel_alloc _ _)) (fun hHeld2=>?_)
     have NB:=hidI (ap_znew hHeld)
     have HG:=hidI hHeld.size
     try replace HADS:=hidI (HADS.out.bel (bel_alloc _ (.cells #[.int .i64 0,.int .i64 0,.string ⟨#[]⟩,.slice none 0 0,.slice none 0 0] 25)))
     first | (have c9:=CALLED.out;clear c9;have FINA:=hidI (ap_new hHeld RI.out)) | (replace CLI:=hidI (ap_low CLI.out (.cells #[.int .i64 0,.int .i64 0,.string ⟨#[]⟩,.slice none 0 0,.slice none 0 0] 25))) | skip
     clear hK K
     replace hHeld:=hHeld2
     clear hHeld2
     try simp only[Act.put,List.setIfInBounds_toArray,List.set_cons_zero,List.set_cons_succ])
   |(refine lst (i:=10) (o:=_) (by decide +kernel) rfl (fun K hK=>?_)
     try rw[show (World.drew w8).heap.size=w8.heap.size from rfl]at NB
     obtain⟨n0,n1,n2,n3,n4,m0,m1,m2,m3,m4⟩:=NB.out.c
     first | (have c9:=FINA.out;clear c9) | (have FINB:=hidI (ap_put hHeld HG.out NB.out RI.out))
     go_simp
     refine hK.out _ _ ?_
     clear hK K
     try simp only[Act.put,List.setIfInBounds_toArray,List.set_cons_zero,List.set_cons_succ])
   | refine rdy [5,9] (by decide +kernel) ?_
   | refine rdy [7,9] (by decide +kernel) ?_
   | refine rdy [8,9] (by decide +kernel) ?_
   | refine rdy [9] (by decide +kernel) ?_
   | refine rdy [8] (by decide +kernel) ?_
   | refine rdy [7] (by decide +kernel) ?_
   | refine rdy [5] (by decide +kernel) ?_
   | fail)
  all_goals
   refine dn (by kernel_rfl) ?_
   go_wp2_with fail
   go_meet
   case rel=>first | exact⟨_,_,_,_,_,rfl,FINA.out⟩ | exact⟨_,_,_,_,_,rfl,FINB.out⟩
 case rest=>
  obtain⟨g7,a9,b9,c9,d9,rfl,hcW,hcG,hcB,hcI⟩:=hcut
  have BC:=hidI (bel_trans B8.out hcB)
  have YC:=hidI (bel_trans Y8.out hcB)
  have CI:=hidI hcI
  have CW:=hidI hcW
  have CB:=hidI hcB
  have CG:=hidI hcG
  clear hcW hcG hcB hcI
  have S7:Hid (w.heap.size+4<=w5.heap.size/\w5.heap.size<=W7.heap.size/\W7.heap.size<=w8.heap.size):=hidI ⟨Nat.le_trans SW.out Y5.out.size,Nat.le_trans Y56.out.size Y7.out.size,B78.out.size⟩
  obtain⟨nw,hnw⟩:∃ nw,(withOwnF (othersF t want l who) ⟨who,leavesF want⟩).length=nw:=⟨_,rfl⟩
  have WOW:Hid (Calls Tryz.prog 29 #[.slice oa (othersF t want l who).length oc,.agg #[.string ⟨who.toArray⟩,.slice x3 (leavesF want).length y3]] wc fun e w'=>∃ a c,e=.returned (.slice a nw c)/\OwnsAre w' (fun k=>W7.heap.size<=k\/(fun k=>okN (fun k=>ok k/\k < w.heap.size) w5.heap.size k/\k < W7.heap.size) k) (withOwnF (othersF t want l who) ⟨who,leavesF want⟩) (.slice a nw c)/\wc.grownBy w' (Value.ownBlock (.slice oa (othersF t want l who).length oc))):=hidI (by
   have hq:=withOwner_at wc W7.heap.size (othersF t want l who) (.slice oa (othersF t want l who).length oc) ⟨who,leavesF want⟩ x3 y3 (fun k=>okN (fun k=>ok k/\k < w.heap.size) w5.heap.size k/\k < W7.heap.size) (ORW.out.bel CB.out) AO.out.named AO.out.risesO AO.out.lenO (Nat.le_trans B78.out.size CB.out.size) (by unfold maxLen;show who.length<=_;omega) ((wish_strs WI7.out).bel B78.out |>.bel CB.out) (fun k hk e=>by have h9:=(ORW.out.lt k e.symm).1;have h8:=hk.2;omega)
   rw[hnw]at hq
   exact hq)
  have HNW:=hidI hnw
  clear hnw
  obtain⟨q0,q1,q2,q3,q4,q5⟩:=box6 (blk_bel CB.out XW8.out)
  have u0:=cell_bel CB.out NC8.out
  go_upto_region 10 with (go_at_call 29;refine WOW.out.mono ?_;rintro e w9 ⟨wa,wk,rfl,how,hgw⟩;have OW9:=hidI how;have GW:=hidI hgw;clear how hgw)
  clear q0 q1 q2 q3 q4 q5 u0
  have FAR:Hid (∀ g,Value.ownBlock (.slice oa (othersF t want l who).length oc)=some g->W7.heap.size<=g/\g < w8.heap.size):=hidI (fun g hg=>ORW.out.lt g hg)
  have Y9:Hid (Below W3.heap.size W3 w9):=hidI (gb_far YC.out GW.out fun g hg=>by have h9:=(FAR.out g hg).1;have h8:=S7.out;have h7:=Y5.out.size;omega)
  have B9:=hidI (bel_trans BW.out Y9.out)
  have RB9:Hid (BoxIs w9 g7 (.int .i64 res.kind) (.int .i64 res.n) (.string ⟨res.s.toArray⟩) (.slice a9 res.keys.length c9) (.slice b9 res.l.length d9)):=hidI (by
   have h9:=(Array.getElem?_eq_some_iff.1 CW.out).1
   exact(GW.out.block g7 h9 fun e=>by have h8:=(FAR.out g7 e.symm).2;have h7:=CG.out;omega).trans CW.out)
  have RI9:Hid (In w9 (okN (fun k=>okN (fun k=>ok k/\k < w.heap.size) w5.heap.size k/\k < W7.heap.size) w8.heap.size) res (.agg #[.int .i64 res.kind,.int .i64 res.n,.string ⟨res.s.toArray⟩,.slice a9 res.keys.length c9,.slice b9 res.l.length d9])):=hidI (CI.out.grownR GW.out fun k hk e=>by
   have h8:=FAR.out k e.symm
   rcases hk with hk | hk
   ·have:=hk.2;omega
   ·omega)
  have OKF:Hid (∀ k,(okN (fun k=>okN (fun k=>ok k/\k < w.heap.size) w5.heap.size k/\k < W7.heap.size) w8.heap.size) k->k≠w.heap.size+3):=hidI (fun k hk=>by
   have h8:=S7.out
   rcases hk with⟨hk | hk,-⟩ | hk
   ·have:=hk.2;omega
   ·omega
   ·omega)
  have OKS:Hid (∀ k,(okN (fun k=>okN (fun k=>ok k/\k < w.heap.size) w5.heap.size k/\k < W7.heap.size) w8.heap.size) k->okN ok w.heap.size k):=hidI (fun k hk=>by
   have h8:=S7.out
   rcases hk with⟨hk | hk,-⟩ | hk
   ·exact .inl hk.1
   ·exact .inr (by omega)
   ·exact .inr (by omega))
  have OKF2:Hid (∀ k,(W7.heap.size<=k\/(fun k=>okN (fun k=>ok k/\k < w.heap.size) w5.heap.size k/\k < W7.heap.size) k)->k≠w.heap.size+3):=hidI (fun k hk=>by
   have h8:=S7.out
   rcases hk with hk | ⟨hk | hk,-⟩
   ·omega
   ·have:=hk.2;omega
   ·omega)
  have OKS2:Hid (∀ k,(W7.heap.size<=k\/(fun k=>okN (fun k=>ok k/\k < w.heap.size) w5.heap.size k/\k < W7.heap.size) k)->okN ok w.heap.size k):=hidI (fun k hk=>by
   have h8:=S7.out
   rcases hk with hk | ⟨hk | hk,-⟩
   ·exact .inr (by omega)
   ·exact .inl hk.1
   ·exact .inr (by omega))
  have GR:Hid (Calls Tryz.prog 13 #[.agg #[.int .i64 res.kind,.int .i64 res.n,.string ⟨res.s.toArray⟩,.slice a9 res.keys.length c9,.slice b9 res.l.length d9]] w9 fun e w'=>e=.returned (.bool (goodV res))/\Below w9.heap.size w9 w'):=hidI (good_is w9 _ res _ RI9.out)
  obtain⟨q0,q1,q2,q3,q4,-⟩:=RB9.out.c
  have HRR:Hid (applyF t l who want true=if goodV res=true/\nw<=6 then (res,withOwnF (othersF t want l who) ⟨who,leavesF want⟩,[],0) else (t,l,[],2)):=hidI (by
   rw[RA.out,HRF.out,HNW.out])
  cases hgv:goodV res with
  | false=>
   have R:Hid (applyF t l who want true=(t,l,[],2)):=hidI (by rw[HRR.out,if_neg (by rw[hgv];simp)])
   rw[hgv]at GR
   clear hgv
   go_upto_region 11 with (go_at_call 13;refine GR.out.mono ?_;rintro e w10 ⟨rfl,hb⟩;have Y10:=hidI (bel_trans Y9.out hb);have B10:=hidI (bel_trans B9.out hb);clear hb)
   clear q0 q1 q2 q3 q4
   obtain⟨v0,v1,v2,v3,v4,-⟩:=(box_bel Y10.out X1.out).c
   obtain⟨n0,n1,n2,n3,n4,m0,m1,m2,m3,m4⟩:=(box_bel Y10.out X4.out).c
   have ZB:=hidI ((box_bel Y10.out X4.out).set (.int .i64 t.kind) (.int .i64 t.n) (.string ⟨t.s.toArray⟩) (.slice b1 t.keys.length d1) (.slice b2 t.l.length d2))
   have BF:=hidI (bel_set5 (g:=w.heap.size+3) B10.out (by omega) (.int .i64 t.kind) (.int .i64 t.n) (.string ⟨t.s.toArray⟩) (.slice b1 t.keys.length d1) (.slice b2 t.l.length d2))
   go_wp2_with fail
   obtain⟨z0,z1,z2,z3,z4,-⟩:=ZB.out.c
   refine bodyPost_ret (v:=.tuple #[.agg #[.int .i64 t.kind,.int .i64 t.n,.string ⟨t.s.toArray⟩,.slice b1 t.keys.length d1,.slice b2 t.l.length d2],.slice la l.length lc,.slice none 0 0,.int .i64 2]) ?_ rfl ?_
   ·simp only[set5]at z0 z1 z2 z3 z4
    simp[results,Tryz.results6,go_sem,z0,z1,z2,z3,z4]
   ·rw[ApplyIs,R.out]
    exact⟨_,_,_,rfl,(HT.out.belB (fun k h=>h.2) BF.out).weak fun k h=>.inl h.1,(HL.out.belB (fun k h=>h.2) BF.out).weak fun k h=>.inl h.1,World.ownsRow_nil _ _ _ _,BF.out⟩
  | true=>
   rw[hgv]at GR
   by_cases h6:nw<=6
   ·have RR:Hid (applyF t l who want true=(res,withOwnF (othersF t want l who) ⟨who,leavesF want⟩,[],0)):=hidI (by rw[HRR.out,if_pos ⟨hgv,h6⟩])
    have q6:¬(6:Int) < (nw:Int):=by omega
    clear hgv h6
    go_upto_region 12 with (go_at_call 13;refine GR.out.mono ?_;rintro e w10 ⟨rfl,hb⟩;have Y10:=hidI (bel_trans Y9.out hb);have B10:=hidI (bel_trans B9.out hb);have RB10:=hidI (box_bel hb RB9.out);have RI10:=hidI (RI9.out.bel hb);have OW10:=hidI (OW9.out.bel hb);clear hb)
    clear q0 q1 q2 q3 q4 q6
    obtain⟨v0,v1,v2,v3,v4,-⟩:=RB10.out.c
    obtain⟨n0,n1,n2,n3,n4,m0,m1,m2,m3,m4⟩:=(box_bel Y10.out X4.out).c
    have ZB:=hidI ((box_bel Y10.out X4.out).set (.int .i64 res.kind) (.int .i64 res.n) (.string ⟨res.s.toArray⟩) (.slice a9 res.keys.length c9) (.slice b9 res.l.length d9))
    have BF:=hidI (bel_set5 (g:=w.heap.size+3) B10.out (by omega) (.int .i64 res.kind) (.int .i64 res.n) (.string ⟨res.s.toArray⟩) (.slice a9 res.keys.length c9) (.slice b9 res.l.length d9))
    have GF:=hidI (set5_gb w10 (w.heap.size+3) (.int .i64 res.kind) (.int .i64 res.n) (.string ⟨res.s.toArray⟩) (.slice a9 res.keys.length c9) (.slice b9 res.l.length d9))
    go_wp2_with fail
    obtain⟨z0,z1,z2,z3,z4,-⟩:=ZB.out.c
    refine bodyPost_ret (v:=.tuple #[.agg #[.int .i64 res.kind,.int .i64 res.n,.string ⟨res.s.toArray⟩,.slice a9 res.keys.length c9,.slice b9 res.l.length d9],.slice wa nw wk,.slice none 0 0,.int .i64 0]) ?_ rfl ?_
    ·simp only[set5]at z0 z1 z2 z3 z4
     simp[results,Tryz.results6,go_sem,z0,z1,z2,z3,z4]
    ·rw[ApplyIs,RR.out]
     refine⟨_,_,_,rfl,(RI10.out.grownR GF.out fun k hk e=>?_).weak fun k hk=>?_,(OW10.out.grownR GF.out fun k hk e=>?_).weak fun k hk=>?_,World.ownsRow_nil _ _ _ _,BF.out⟩
     ·cases e;exact OKF.out _ hk rfl
     ·exact OKS.out _ hk
     ·cases e;exact OKF2.out _ hk rfl
     ·exact OKS2.out _ hk
   ·have R:Hid (applyF t l who want true=(t,l,[],2)):=hidI (by rw[HRR.out,if_neg (by intro h;exact h6 h.2)])
    have q6:(6:Int) < (nw:Int):=by omega
    clear hgv h6
    go_upto_region 11 with (go_at_call 13;refine GR.out.mono ?_;rintro e w10 ⟨rfl,hb⟩;have Y10:=hidI (bel_trans Y9.out hb);have B10:=hidI (bel_trans B9.out hb);clear hb)
    clear q0 q1 q2 q3 q4 q6
    obtain⟨v0,v1,v2,v3,v4,-⟩:=(box_bel Y10.out X1.out).c
    obtain⟨n0,n1,n2,n3,n4,m0,m1,m2,m3,m4⟩:=(box_bel Y10.out X4.out).c
    have ZB:=hidI ((box_bel Y10.out X4.out).set (.int .i64 t.kind) (.int .i64 t.n) (.string ⟨t.s.toArray⟩) (.slice b1 t.keys.length d1) (.slice b2 t.l.length d2))
    have BF:=hidI (bel_set5 (g:=w.heap.size+3) B10.out (by omega) (.int .i64 t.kind) (.int .i64 t.n) (.string ⟨t.s.toArray⟩) (.slice b1 t.keys.length d1) (.slice b2 t.l.length d2))
    go_wp2_with fail
    obtain⟨z0,z1,z2,z3,z4,-⟩:=ZB.out.c
    refine bodyPost_ret (v:=.tuple #[.agg #[.int .i64 t.kind,.int .i64 t.n,.string ⟨t.s.toArray⟩,.slice b1 t.keys.length d1,.slice b2 t.l.length d2],.slice la l.length lc,.slice none 0 0,.int .i64 2]) ?_ rfl ?_
    ·simp only[set5]at z0 z1 z2 z3 z4
     simp[results,Tryz.results6,go_sem,z0,z1,z2,z3,z4]
    ·rw[ApplyIs,R.out]
     exact⟨_,_,_,rfl,(HT.out.belB (fun k h=>h.2) BF.out).weak fun k h=>.inl h.1,(HL.out.belB (fun k h=>h.2) BF.out).weak fun k h=>.inl h.1,World.ownsRow_nil _ _ _ _,BF.out⟩
end Go.Proofs.YtmdemcjmcnfjmaaGreatDoor
namespace Go.Proofs.YtmdemcjmcnfjmaaGreatDoor
open Go.RowKit
theorem thr_deep:∀ (ns:List (List UInt8)) (v x:V),thr ns v=some x->ns.length+cnt x<=cnt v
 | [],v,x,h=>by cases h;simp
 | n :: ns,v,x,h=>by
  obtain⟨-,z,hm,hz⟩:=thr_kind h
  have h1:=thr_deep ns z x hz
  have h2:=cnts_mem (mem_in hm)
  have h3:=cnt_eq v
  rw[List.length_cons]
  omega
theorem gp_len {p:List UInt8} (h:gpB p=true):p.length<=140737488351232/\namesP p≠[]:=by
 simp only[gpB,Bool.and_eq_true,decide_eq_true_eq,Bool.not_eq_true']at h
 refine⟨?_,fun e=>by rw[e]at h;simp at h⟩
 have:=(split_len (p:=p) (b:=(splitP p).1) (by rw[<-h.1])).1
 omega
theorem named_len {s:List UInt8} (h:namedB s=true):s.length<=12:=by
 simp only[namedB,Bool.and_eq_true,decide_eq_true_eq]at h
 exact h.1.2
theorem applyOk {t want:V} {l:List Own} (who:List UInt8) (h1:t.kind=5) (h2:goodV t=true) (h3:want.kind=5) (h4:goodV want=true) (h5:goodOs l=true):ApplyOk t want l who:=by
 obtain⟨g1,g2,g3⟩:=good_own h5
 obtain⟨k1,k2⟩:=kept_good (stays:=fun n p=>n != who&&!blockedF want t (leavesF want) p) h5
 have lo:=leaves_ok h3 h4
 have c1:=nice_cnt (nice_of h2)
 have c2:=nice_cnt (nice_of h4)
 refine⟨g3,g1,obs_good h2,obs_good h4,h1,by omega,fun p hp=>gp_len (paths_good h5 who p hp),fun p hp=>?_,?_,fun o ho=>?_,k2,?_⟩
 ·obtain⟨q1,q2⟩:=gp_len (lo.good p hp)
  refine⟨q1,q2,?_⟩
  obtain⟨x,hx,-⟩:=lvs_thr 12 want (namesP p) ((goodV_tree h4).ho) h3 ((lo.names _).1 (List.mem_map.2 ⟨p,hp,rfl⟩))
  rw[hx,Option.getD_some]
  have:=thr_deep _ _ _ hx
  omega
 ·have e:leavesF want=sortL ((lvs 12 want).map joinP):=if_pos ⟨h3,h4⟩
  rw[e,(sort_perm _).length_eq,List.length_map]
  have q1:=lvs_cnt 12 want
  have q2:=cnt_eq want
  omega
 ·have:=named_len (k1 o ho).1
  unfold maxLen;omega
 ·have:=(kept_names (fun n p=>n != who&&!blockedF want t (leavesF want) p) l).length_le
  simp only[List.length_map]at this
  show (keptF _ l).length<=_
  omega
theorem apply_at (w:World) (ok:Nat->Prop) (t want:V) (l:List Own) (who:List UInt8) (force:Bool) (vt vl vw:Value) (ht:In w ok t vt) (hl:OwnsAre w ok l vl) (hw:In w ok want vw) (hM:GlobM w) (hN:(allOf l).length<=4000000) (hP:∀ o∈l,∀ x∈o.paths,x.length<=140737488351232) (hwho:who.length<=9223372036854775807) :
 Calls Tryz.prog 6 #[vt,vl,.string ⟨who.toArray⟩,vw,.bool force] w fun e w'=>ApplyIs w w' ok (applyF t l who want force) e:=by
 cases hg1:(decide (t.kind=5)&&goodV t) with
 | false=>exact apply_bad1 w ok t want l who force vt vl vw ht hl hw hM hN hP hwho hg1
 | true=>
  cases hg2:(decide (want.kind=5)&&goodV want) with
  | false=>exact apply_bad2 w ok t want l who force vt vl vw ht hl hw hM hN hP hwho hg1 hg2
  | true=>
   cases hg3:goodOs l with
   | false=>exact apply_bad3 w ok t want l who force vt vl vw ht hl hw hM hN hP hwho hg1 hg2 hg3
   | true=>
    cases hg4:namedB who with
    | false=>exact apply_bad4 w ok t want l who force vt vl vw ht hl hw hM hN hP hwho hg1 hg2 hg3 hg4
    | true=>
     have a1:=Bool.and_eq_true_iff.1 hg1
     have a2:=Bool.and_eq_true_iff.1 hg2
     have AO:=applyOk who (of_decide_eq_true a1.1) a1.2 (of_decide_eq_true a2.1) a2.2 hg3
     by_cases hf:foundF (blockedF want t (leavesF want)) who l=[]
     ·exact apply_none w ok t want l who force vt vl vw ht hl hw hM hN hP hwho hg1 hg2 hg3 hg4 hf AO
     ·cases hfo:force with
      | false=>exact apply_conf w ok t want l who false vt vl vw ht hl hw hM hN hP hwho hg1 hg2 hg3 hg4 hf rfl
      | true=>exact apply_force w ok t want l who true vt vl vw ht hl hw hM hN hP hwho hg1 hg2 hg3 hg4 hf rfl AO
end Go.Proofs.YtmdemcjmcnfjmaaGreatDoor
namespace Go.Proofs.YtmdemcjmcnfjmaaGreatDoor
open Go.RowKit
theorem find_atK {l:List Own} {who:List UInt8} {k:Nat} (hlt:k < l.length) (h:∀ o∈l.take k,o.name≠who) (he:l[k].name=who):pathsOfF l who=l[k].paths:=by
 have e:l=l.take k++l[k] :: l.drop (k+1):=by rw[<-List.drop_eq_getElem_cons hlt,List.take_append_drop]
 unfold pathsOfF
 have:l.find? (fun o=>o.name == who)=some l[k]:=by
  conv=>lhs;rw[e]
  rw[List.find?_append,List.find?_eq_none.2 (by intro o ho;simpa using h o ho)]
  rw[Option.none_or,List.find?_cons_of_pos (by simpa using he)]
 rw[this]
theorem find_out {l:List Own} {who:List UInt8} (h:∀ o∈l,o.name≠who):pathsOfF l who=[]:=paths_none h
set_option maxRecDepth 100000 in
set_option maxHeartbeats 4000000 in
theorem pathsOfK_at (w:World) (ok:Nat->Prop) (l:List Own) (v:Value) (who:List UInt8) (h:OwnsAre w ok l v) :
 Calls Tryz.prog 10 #[v,.string ⟨who.toArray⟩] w fun e w'=>∃ a c,e=.returned (.slice a (pathsOfF l who).length c)/\StrsAre w' ok (pathsOfF l who) (.slice a (pathsOfF l who).length c)/\Below w.heap.size w w':=by
 have H:=hidI h
 obtain⟨a,c,rfl⟩:=h.form
 have ll:=h.1
 unfold maxLen at ll
 clear h
 go_enter Tryz.func10,Tryz.ntmps10
 go_wp2_with fail
 go_loopg [9] l.length (fun gk i wr=>∃ k:Nat,k<=l.length/\gk=l.length - k/\i=.int .i64 k/\Hid (∀ o∈l.take k,o.name≠who)/\Hid (Below w.heap.size w wr))
 case atStart=>exact⟨0,Nat.zero_le _,rfl,rfl,fun o ho=>by simp at ho,Below.refl _ _⟩
 case round=>
  obtain⟨k,hk,hgk,rfl,AL,BL⟩:=hrel
  have GK:=hidI hgk
  clear hgk
  by_cases hlt:k < l.length
  ·obtain⟨b,off,pa,pc,rfl,hc1,hc2,hn0,hp0,hst,hnl⟩:=H.out.at hlt
   have hn:=cell_bel BL.out hn0
   have hp:=cell_bel BL.out hp0
   have w2:(k:Int) < (l.length:Int):=by omega
   have w3:(0:Int)<=(k:Int):=by omega
   have FA:Hid (l[k].name=who->pathsOfF l who=l[k].paths):=hidI (find_atK hlt AL.out)
   have TK:Hid (l[k].name≠who->∀ o∈l.take (k+1),o.name≠who):=hidI (fun h9 o ho=>by
    rw[List.take_succ_eq_append_getElem hlt,List.mem_append,List.mem_singleton]at ho
    rcases ho with ho | rfl
    ·exact AL.out o ho
    ·exact h9)
   have ST:=hidI hst
   clear hn0 hp0 hst
   obtain⟨nm,hnm⟩:∃ nm,l[k].name=nm:=⟨_,rfl⟩
   obtain⟨ps,hps⟩:∃ ps,l[k].paths=ps:=⟨_,rfl⟩
   rw[hnm]at hn FA TK hnl
   rw[hps]at hp FA ST
   clear hnm hps
   have BN:Hid (∀ o,Below w.heap.size w (wr.alloc o)):=hidI (fun o=>bel_trans BL.out (bel_alloc wr o))
   by_cases he:nm=who
   ·subst he
    have R:=hidI (FA.out rfl)
    clear FA TK
    go_wp2_with fail
    go_ret
    refine⟨pa,pc,by rw[R.out];rfl,by rw[R.out];exact ST.out.bel (BN.out _),BN.out _⟩
   ·have e9:(nm == who)=false:=by simpa using he
    have TK2:=hidI (TK.out he)
    clear FA TK
    go_wp2_with fail
    go_roundg (l.length - (k+1))
    case measure=>rw[GK.out];omega
    case rel=>exact⟨k+1,hlt,rfl,by go_num,TK2,hidI (BN.out _)⟩
  ·have d9:¬(k:Int) < (l.length:Int):=by omega
   have R:Hid (pathsOfF l who=[]):=hidI (find_out (by
    have:=AL.out
    rwa [List.take_of_length_le (by omega)]at this))
   go_wp2_with fail
   go_ret
   exact⟨none,0,by rw[R.out];rfl,by rw[R.out];exact⟨by simp,.inl ⟨rfl,none,rfl⟩⟩,BL.out⟩
end Go.Proofs.YtmdemcjmcnfjmaaGreatDoor
namespace Go.Proofs.YtmdemcjmcnfjmaaGreatDoor
open Go.RowKit
theorem take_same {α:Type} {xs ys:List α} {k:Nat} (h:xs.take k=ys.take k) (hx:k < xs.length) (hy:k < ys.length) (he:xs[k]=ys[k]):xs.take (k+1)=ys.take (k+1):=by
 rw[List.take_succ_eq_append_getElem hx,List.take_succ_eq_append_getElem hy,h,he]
set_option maxRecDepth 100000 in
set_option maxHeartbeats 4000000 in
theorem sameTexts_at (w:World) (ok ok':Nat->Prop) (xs ys:List (List UInt8)) (v u:Value) (h:StrsAre w ok xs v) (h':StrsAre w ok' ys u) :
 Calls Tryz.prog 9 #[v,u] w fun e w'=>e=.returned (.bool (decide (xs=ys)))/\Below w.heap.size w w':=by
 have H:=hidI h
 have H':=hidI h'
 obtain⟨a,c,rfl⟩:=h.form
 obtain⟨a',c',rfl⟩:=h'.form
 have ll:=h.1
 have ll':=h'.1
 unfold maxLen at ll ll'
 clear h h'
 by_cases hl:xs.length=ys.length
 ·have q0:((xs.length:Int) != (ys.length:Int))=false:=by simp[hl]
  have q00:((xs.length:Int) == (ys.length:Int))=true:=by simp[hl]
  have HLN:=hidI hl
  rw[<-hl]
  clear hl
  go_enter Tryz.func9,Tryz.ntmps9
  go_wp2_with fail
  go_loopg [13] xs.length (fun gk i wr=>∃ k:Nat,k<=xs.length/\gk=xs.length - k/\i=.int .i64 k/\Hid (xs.take k=ys.take k)/\Hid (Below w.heap.size w wr))
  case atStart=>exact⟨0,Nat.zero_le _,rfl,rfl,rfl,Below.refl _ _⟩
  case round=>
   obtain⟨k,hk,hgk,rfl,AL,BL⟩:=hrel
   have GK:=hidI hgk
   clear hgk
   by_cases hlt:k < xs.length
   ·have hlt':k < ys.length:=HLN.out ▸ hlt
    obtain⟨b,off,rfl,hc1,hc2,hcell0⟩:=strs_at H.out hlt
    obtain⟨b',off',rfl,hc1',hc2',hcell0'⟩:=strs_at H'.out hlt'
    unfold maxLen at hc2 hc2'
    have w2:(k:Int) < (xs.length:Int):=by omega
    have w3:(0:Int)<=(k:Int):=by omega
    have TK:Hid (xs[k]=ys[k]->xs.take (k+1)=ys.take (k+1)):=hidI (take_same AL.out hlt hlt')
    have NE:Hid (xs[k]≠ys[k]->decide (xs=ys)=false):=hidI (fun h9=>decide_eq_false (fun e=>h9 (by subst e;rfl)))
    have d0:=cell_bel BL.out hcell0
    have d1:=cell_bel BL.out hcell0'
    have BD:Hid (Below w.heap.size w wr.drew):=hidI (bel_trans BL.out (bel_drewN wr 1))
    clear hcell0 hcell0'
    by_cases he:xs[k]=ys[k]
    ·have TK2:=hidI (TK.out he)
     rw[<-he]at d1
     clear he
     go_wp2_with fail
     go_region
     go_wp2_with fail
     go_roundg (xs.length - (k+1))
     case measure=>rw[GK.out];omega
     case rel=>exact⟨k+1,hlt,rfl,by go_num,TK2,BD⟩
    ·have R:=hidI (NE.out he)
     have e9:(xs[k] == ys[k])=false:=by rw[beq_eq_false_iff_ne];exact he
     obtain⟨x,hx⟩:∃ x,xs[k]=x:=⟨_,rfl⟩
     obtain⟨y,hy⟩:∃ y,ys[k]=y:=⟨_,rfl⟩
     rw[hx]at d0 he e9
     rw[hy]at d1 he e9
     clear hx hy TK NE
     go_wp2_with fail
     go_region
     go_wp2_with fail
     go_ret
     exact⟨by rw[R.out];rfl,BD.out⟩
   ·have d9:¬(k:Int) < (xs.length:Int):=by omega
    have R:Hid (decide (xs=ys)=true):=hidI (decide_eq_true (by
     have:=AL.out
     rwa [List.take_of_length_le (by omega),List.take_of_length_le (by have:=HLN.out;omega)]at this))
    go_wp2_with fail
    go_ret
    exact⟨by rw[R.out];rfl,BL.out⟩
 ·have q0:((xs.length:Int) != (ys.length:Int))=true:=by simp;omega
  have q00:((xs.length:Int) == (ys.length:Int))=false:=by rw[beq_eq_false_iff_ne];omega
  have R:Hid (decide (xs=ys)=false):=hidI (decide_eq_false (fun e=>hl (by rw[e])))
  go_enter Tryz.func9,Tryz.ntmps9
  go_wp2_with fail
  go_ret
  exact⟨by rw[R.out];rfl,Below.refl _ _⟩
end Go.Proofs.YtmdemcjmcnfjmaaGreatDoor
namespace Go.Proofs.YtmdemcjmcnfjmaaGreatDoor
open Go.RowKit
def wordS (wd l:List UInt8):Option (List UInt8):=if wd.isPrefixOf l then some (l.drop wd.length) else none
set_option maxRecDepth 100000 in
set_option maxHeartbeats 1000000 in
theorem word_st (w:World) (b:Nat) (s:ByteArray) (st:Option (List UInt8)) (wd:ByteArray) (k n:Int) (hk:I64 k) (hn:I64 n) (hwd:0 < wd.size) (hwd2:wd.size<=100) (h:RdSt w b s st) :
 Calls Tryz.prog 93 #[.pointer (some ⟨b,0,none⟩),.string wd,.agg #[.int .i64 k,.int .i64 n,.string ⟨#[]⟩,.slice none 0 0,.slice none 0 0]] w fun e w'=>∃ (t:V) (v:Value) (st':Option (List UInt8)),e=.returned v/\IsLeaf t v /\
  (st.bind (wordS wd.data.toList)).map (fun l=>(leafV k n [],l))=st'.map (fun l=>(t,l))/\RdSt w' b s st'/\w.grownBy w' (some b):=by
 have H:=hidI h
 have hbl:=h.lt
 obtain⟨i,h1,e1⟩:=h
 have E1:=hidI e1
 have hi:=h1.2.1
 have hs0:=h1.2.2
 have R0:=hidI h1
 clear e1 h1
 have hr1:Hid (RdIs ((w.alloc (.cells #[.int .i64 k,.int .i64 n,.string ⟨#[]⟩,.slice none 0 0,.slice none 0 0] 25)).alloc zcells) b s i st.isNone):=
  ⟨by rw[(World.grownBy_alloc _ zcells none).block b (by simp;omega) (by simp),(World.grownBy_alloc w _ none).block b hbl (by simp)];exact R0.out.1,R0.out.2⟩
 have i0:(0:Int)<=(i:Int):=by omega
 have i1:(i:Int)<=(s.size:Int):=by omega
 obtain⟨c0,c1,c2,f1,f2⟩:=hr1.out.c
 unfold zcells at c0 c1 c2 f1 f2
 have hdr:Hid ((s.data.toList.drop i).take (s.size - i)=st.getD []):=by
  show _=_
  rw[<-E1.out]
  exact List.take_of_length_le (by simp only[List.length_drop,Array.length_toList];exact Nat.le_refl _)
 cases hpx:wd.data.toList.isPrefixOf (st.getD []) with
 | true=>
  have hp:Lib.hasPrefix ((s.data.toList.drop i).take (s.size - i)) wd.data.toList=true:=by rw[hdr.out];exact hpx
  have HP:=hidI hpx
  have hlen:i+wd.size<=s.size:=by
   have:=List.IsPrefix.length_le (List.isPrefixOf_iff_prefix.1 hpx)
   rw[<-E1.out,List.length_drop,Array.length_toList,Array.length_toList]at this
   have e:s.data.size=s.size:=rfl
   have e':wd.data.size=wd.size:=rfl
   omega
  clear hpx
  go_enter Tryz.func93,Tryz.ntmps93
  go_wp2_with fail
  go_quiet ((go_at_call 83;exact Calls.quiet_of_same (Tryz.strings_HasPrefix _ _ _)))
  go_wp2_with fail
  refine bodyPost_ret (v:=leaf k n []) (by simp[results,Tryz.results93,go_sem,leaf,str]) rfl ?_
  refine⟨leafV k n [],leaf k n [],st.map (List.drop wd.data.toList.length),rfl,⟨_,_,rfl,rfl,hk,hn⟩,?_,?_,?_⟩
  ·cases st with
   | none=>exact absurd HP.out (by
    cases hw:wd.data.toList with
    | nil=>
     have e:wd.data.toList.length=wd.size:=by rw[Array.length_toList];rfl
     rw[hw]at e;simp at e;omega
    | cons c r=>simp)
   | some l=>exact congrArg _ (show wordS wd.data.toList l=some _ by unfold wordS;exact if_pos HP.out)
  ·have e9:((i:Int)+(wd.size:Int))=((i+wd.size:Nat):Int):=by omega
   refine⟨i+wd.size,⟨?_,hlen,hs0⟩,?_⟩
   ·rw[e9]
    refine((set5_gb _ (w.heap.size+1) _ _ _ _ _).block b ?_ (by simp;omega)).trans ?_
    ·simp[World.setCell];omega
    ·have:(st.map (List.drop wd.data.toList.length)).isNone=st.isNone:=by cases st <;> rfl
     rw[this]
     exact heap_set hr1.out.1 1 _
   ·have e8:wd.data.toList.length=wd.size:=by rw[Array.length_toList];rfl
    rw[<-List.drop_drop,E1.out,e8]
    cases st with
    | none=>simp
    | some l=>rfl
  ·exact gb_own (gb_set (gb_drewN (gb_alloc (gb_alloc (gb_refl _ _) _) _) _) _ _) (set5_gb _ (w.heap.size+1) _ _ _ _ _) (by intro k hk;cases hk;omega)
 | false=>
  have hp:Lib.hasPrefix ((s.data.toList.drop i).take (s.size - i)) wd.data.toList=false:=by rw[hdr.out];exact hpx
  have HP:=hidI hpx
  clear hpx
  go_enter Tryz.func93,Tryz.ntmps93
  go_wp2_with fail
  go_quiet ((go_at_call 83;exact Calls.quiet_of_same (Tryz.strings_HasPrefix _ _ _)))
  go_wp2_with fail
  refine(fail_at _ b s (st.getD []) st.isNone (by exact⟨i,⟨hr1.out.1,hr1.out.2⟩,E1.out⟩)).mono ?_
  rintro e w4 ⟨rfl,h4,hg4⟩
  have hg5:=gb_trans (gb_drewN (gb_refl ((w.alloc (.cells #[.int .i64 k,.int .i64 n,.string ⟨#[]⟩,.slice none 0 0,.slice none 0 0] 25)).alloc zcells) (some b)) nq) hg4
  have hbx:BoxIs w4 (w.heap.size+1) (.int .i64 0) (.int .i64 0) (.string ⟨#[]⟩) (.slice none 0 0) (.slice none 0 0):=BoxIs.grown (h2b w _ zcells) hg5 (by simp;omega)
  have R4:Hid (RdAt w4 b s [] true/\w.grownBy w4 (some b)):=⟨h4,gb_trans (gb_alloc (gb_alloc (gb_refl _ _) _) _) hg5⟩
  obtain⟨x0,x1,x2,x3,x4,y0,y1,y2,y3,y4⟩:=hbx.c
  obtain⟨z0,z1,z2,z3,z4,-⟩:=(hbx.set (.int .i64 0) (.int .i64 0) (str []) (.slice none 0 0) (.slice none 0 0)).c
  have Z:Hid (_/\_/\_/\_/\_):=⟨z0,z1,z2,z3,z4⟩
  clear z0 z1 z2 z3 z4 hbx h4 hg4 hg5 c0 c1 c2 f1 f2
  go_wp2_with fail
  obtain⟨z0,z1,z2,z3,z4⟩:=Z.out
  refine bodyPost_ret (v:=leaf 0 0 []) ?_ rfl ?_
  ·simp only[set5,str]at z0 z1 z2 z3 z4
   simp[results,Tryz.results93,go_sem,z0,z1,z2,z3,z4,leaf,str]
  ·refine⟨leafV 0 0 [],leaf 0 0 [],none,rfl,⟨_,_,rfl,rfl,(by unfold I64;omega),(by unfold I64;omega)⟩,?_,?_,?_⟩
   ·cases st with
    | none=>rfl
    | some l=>exact congrArg _ (show wordS wd.data.toList l=none by unfold wordS;rw[if_neg (by rw[show wd.data.toList.isPrefixOf l=false from HP.out];simp)])
   ·exact R4.out.1.of_heap ((set5_gb w4 (w.heap.size+1) _ _ _ _ _).block b R4.out.1.lt (by simp;omega))
   ·exact gb_own R4.out.2 (set5_gb w4 (w.heap.size+1) _ _ _ _ _) (by intro k hk;cases hk;omega)
end Go.Proofs.YtmdemcjmcnfjmaaGreatDoor
