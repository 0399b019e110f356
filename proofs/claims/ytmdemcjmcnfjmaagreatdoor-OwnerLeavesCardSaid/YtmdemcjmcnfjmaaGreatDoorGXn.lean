/- What Get of package point does. -/
import Derived.Test.YtmdemcjmcnfjmaaGreatDoorGShq
import Derived.Test.YtmdemcjmcnfjmaaGreatDoorGRk
import Derived.Test.YtmdemcjmcnfjmaaGreatDoorGFc
import Derived.Test.YtmdemcjmcnfjmaaGreatDoorGRg
import Derived.Test.YtmdemcjmcnfjmaaGreatDoorGShp
import Derived.Test.YtmdemcjmcnfjmaaGreatDoorGOq
set_option linter.unusedSimpArgs false
set_option linter.unusedVariables false
namespace Go.Proofs.YtmdemcjmcnfjmaaGreatDoor
open Go.RowKit
theorem value_st (f:Nat):ValC f:=value_all with_all f
def parseV (l:List UInt8):Option V:=(valS (l.length+1) l).bind fun p=>if p.2.dropWhile isSp=[]/\goodV p.1=true then some p.1 else none
def parseS (l:List UInt8):V × Int:=if 2000 < l.length then (leafV 0 0 [],2) else match parseV l with | some t=>(t,0) | none=>(leafV 0 0 [],1)
set_option maxRecDepth 100000 in
set_option maxHeartbeats 4000000 in
theorem parse_at (w:World) (l:List UInt8) (hl:l.length<=maxLen) (hG:Glob w) :
 Calls Tryz.prog 30 #[str l] w fun e w'=>∃ (t:V) (ee:Int) (a7 a8:Option Addr) (c7 c8:Nat),e=.returned (.tuple #[(.agg #[.int .i64 t.kind,.int .i64 t.n,.string ⟨t.s.toArray⟩,.slice a7 t.keys.length c7,.slice a8 t.l.length c8]),.int .i64 ee])/\parseS l=(t,ee)/\VIs w' (fun k=>w.heap.size<=k) 2003 t (.agg #[.int .i64 t.kind,.int .i64 t.n,.string ⟨t.s.toArray⟩,.slice a7 t.keys.length c7,.slice a8 t.l.length c8])/\Below w.heap.size w w':=by
 unfold maxLen at hl
 unfold str
 have HG:=hidI hG
 clear hG
 by_cases h2:2000 < l.length
 ·have e0:2000 < (l.length:Int):=by omega
  have PS:Hid (parseS l=(leafV 0 0 [],2)):=hidI (by simp[parseS,h2])
  go_enter Tryz.func30,Tryz.ntmps30
  go_wp2_with fail
  refine bodyPost_ret (v:=.tuple #[leaf 0 0 [],.int .i64 2]) (by simp[results,Tryz.results30,go_sem,leaf,str]) rfl ?_
  exact⟨leafV 0 0 [],2,none,none,0,0,rfl,PS.out,leaf_is _ _ 2002 _ _ _ (by unfold I64;omega) (by unfold I64;omega) (by simp),bel_alloc _ _⟩
 ·have e0:¬(2000 < (l.length:Int)):=by omega
  have PS0:Hid (parseS l=match parseV l with | some t=>(t,0) | none=>(leafV 0 0 [],1)):=hidI (by simp only[parseS,if_neg h2])
  go_enter Tryz.func30,Tryz.ntmps30
  go_wp2_with fail
  have hrd:Hid (RdSt ((w.alloc zcells).alloc (.cells #[.string ⟨l.toArray⟩,.int .i64 0,.bool false] 97)) (w.heap.size+1) ⟨l.toArray⟩ (some l)):=⟨0,⟨h2b w _ _,Nat.zero_le _,by simp[ByteArray.size];omega⟩,by simp⟩
  have hG2:Hid (Glob ((w.alloc zcells).alloc (.cells #[.string ⟨l.toArray⟩,.int .i64 0,.bool false] 97))):=HG.out.grown (gb_alloc (gb_alloc (gb_refl w none) _) _) (by simp)
  have hsz:6<=w.heap.size+1:=by have:=HG.out.size;omega
  refine(value_st (l.length+1) _ (w.heap.size+1) ⟨l.toArray⟩ (some l) (by exact hrd.out) (by exact hG2.out) hsz (by simp)).mono ?_
  rintro e w3 ⟨t,st3,a7,a8,c7,c8,rfl,hv3,hst3,hr3,hg3⟩
  have K3:Hid (VIs w3 (fun k=>w.heap.size+2<=k) (l.length+1) t (.agg #[.int .i64 t.kind,.int .i64 t.n,.string ⟨t.s.toArray⟩,.slice a7 t.keys.length c7,.slice a8 t.l.length c8])/\(some l).bind (valS (l.length+1))=st3.map (fun l=>(t,l))/\RdSt w3 (w.heap.size+1) ⟨l.toArray⟩ st3/\BoxIs w3 w.heap.size (.int .i64 0) (.int .i64 0) (.string ⟨#[]⟩) (.slice none 0 0) (.slice none 0 0)/\w.grownBy w3 none):=
   ⟨by simpa using hv3,hst3,hr3,BoxIs.grown (h2a w _ _) hg3 (by simp),gb_out (gb_alloc (gb_alloc (gb_refl w none) _) _) hg3 (by omega)⟩
  have hsz3:w.heap.size+1 < w3.heap.size:=hr3.lt
  clear hv3 hst3 hr3 hg3
  go_wp2_with fail
  refine(spaces_st _ (w.heap.size+1) ⟨l.toArray⟩ st3 (by exact K3.out.2.2.1.grown (World.grownBy_alloc w3 _ none) (by simp))).mono ?_
  rintro e w4 ⟨rfl,hr4,hg4⟩
  have K4:Hid (RdSt w4 (w.heap.size+1) ⟨l.toArray⟩ (st3.map (List.dropWhile isSp))/\BoxIs w4 w.heap.size (.int .i64 0) (.int .i64 0) (.string ⟨#[]⟩) (.slice none 0 0) (.slice none 0 0)/\BoxIs w4 w3.heap.size (.int .i64 t.kind) (.int .i64 t.n) (.string ⟨t.s.toArray⟩) (.slice a7 t.keys.length c7) (.slice a8 t.l.length c8)/\VIs w4 (fun k=>w.heap.size+2<=k) (l.length+1) t (.agg #[.int .i64 t.kind,.int .i64 t.n,.string ⟨t.s.toArray⟩,.slice a7 t.keys.length c7,.slice a8 t.l.length c8])/\w.grownBy w4 none):=
   ⟨hr4,(K3.out.2.2.2.1.grown (World.grownBy_alloc w3 _ none) (by simp)).grown hg4 (by simp),BoxIs.grown (heap_alloc_new w3 _) hg4 (by simp;omega),(K3.out.1.grown (World.grownBy_alloc w3 _ none) (by simp)).grown hg4 (fun k hk e=>by simp at e;omega),gb_out (gb_alloc K3.out.2.2.2.2 _) hg4 (by omega)⟩
  clear hr4 hg4
  have hval:valS (l.length+1) l=st3.map (fun l=>(t,l)):=K3.out.2.1
  match st3,K3,K4,hval with
  | none,K3,K4,hval=>
   have PS:Hid (parseS l=(leafV 0 0 [],1)):=hidI (by
    have:parseV l=none:=by unfold parseV;rw[hval];rfl
    rw[PS0.out,this])
   obtain⟨-,-,c2,-,-⟩:=(RdAt.nil K4.out.1).c
   have EN:Hid (BoxIs w4 w.heap.size (.int .i64 0) (.int .i64 0) (.string ⟨#[]⟩) (.slice none 0 0) (.slice none 0 0)/\w.grownBy w4 none):=⟨K4.out.2.1,K4.out.2.2.2.2⟩
   clear hval
   obtain⟨x0,x1,x2,x3,x4,y0,y1,y2,y3,y4⟩:=EN.out.1.c
   obtain⟨z0,z1,z2,z3,z4,-⟩:=(EN.out.1.set (.int .i64 0) (.int .i64 0) (.string ⟨#[]⟩) (.slice none 0 0) (.slice none 0 0)).c
   have Z:Hid (_/\_/\_/\_/\_):=⟨z0,z1,z2,z3,z4⟩
   clear z0 z1 z2 z3 z4
   go_wp2_with fail
   obtain⟨z0,z1,z2,z3,z4⟩:=Z.out
   refine bodyPost_ret (v:=.tuple #[leaf 0 0 [],.int .i64 1]) ?_ rfl ?_
   ·simp only[set5]at z0 z1 z2 z3 z4
    simp[results,Tryz.results30,go_sem,z0,z1,z2,z3,z4,leaf,str]
   ·exact⟨leafV 0 0 [],1,none,none,0,0,rfl,PS.out,leaf_is _ _ 2002 _ _ _ (by unfold I64;omega) (by unfold I64;omega) (by simp),gb_none (gb_set5 EN.out.2 (Nat.le_refl _) _ _ _ _ _)⟩
  | some r,K3,K4,hval=>
   obtain⟨i,hi,ei⟩:=K4.out.1
   obtain⟨c0,c1,c2,-,-⟩:=hi.c
   have hile:=hi.2.1
   have hel:(ByteArray.mk l.toArray).size=l.length:=by simp[ByteArray.size]
   rw[hel]at hile
   have EI:=hidI ei
   clear hi ei
   cases hd:r.dropWhile isSp with
   | cons x r2=>
    have hlt:(i:Int) < (l.length:Int):=by
     have h9:=EI.out
     rw[show (some r).map (List.dropWhile isSp)=some (r.dropWhile isSp) from rfl,hd]at h9
     have:=congrArg List.length h9
     simp at this
     omega
    have PS:Hid (parseS l=(leafV 0 0 [],1)):=hidI (by
     have:parseV l=none:=by unfold parseV;rw[hval];simp[hd]
     rw[PS0.out,this])
    have EN:Hid (BoxIs w4 w.heap.size (.int .i64 0) (.int .i64 0) (.string ⟨#[]⟩) (.slice none 0 0) (.slice none 0 0)/\w.grownBy w4 none):=⟨K4.out.2.1,K4.out.2.2.2.2⟩
    clear hval hd
    obtain⟨x0,x1,x2,x3,x4,y0,y1,y2,y3,y4⟩:=EN.out.1.c
    obtain⟨z0,z1,z2,z3,z4,-⟩:=(EN.out.1.set (.int .i64 0) (.int .i64 0) (.string ⟨#[]⟩) (.slice none 0 0) (.slice none 0 0)).c
    have Z:Hid (_/\_/\_/\_/\_):=⟨z0,z1,z2,z3,z4⟩
    clear z0 z1 z2 z3 z4
    go_wp2_with fail
    obtain⟨z0,z1,z2,z3,z4⟩:=Z.out
    refine bodyPost_ret (v:=.tuple #[leaf 0 0 [],.int .i64 1]) ?_ rfl ?_
    ·simp only[set5]at z0 z1 z2 z3 z4
     simp[results,Tryz.results30,go_sem,z0,z1,z2,z3,z4,leaf,str]
    ·exact⟨leafV 0 0 [],1,none,none,0,0,rfl,PS.out,leaf_is _ _ 2002 _ _ _ (by unfold I64;omega) (by unfold I64;omega) (by simp),gb_none (gb_set5 EN.out.2 (Nat.le_refl _) _ _ _ _ _)⟩
   | nil=>
    have hge:¬((i:Int) < (l.length:Int)):=by
     have h9:=EI.out
     rw[show (some r).map (List.dropWhile isSp)=some (r.dropWhile isSp) from rfl,hd]at h9
     have:=congrArg List.length h9
     simp at this
     omega
    obtain⟨p0,p1,p2,p3,p4,-⟩:=K4.out.2.2.1.c
    cases hgd:goodV t with
    | true=>
     have PS:Hid (parseS l=(t,0)):=hidI (by
      have:parseV l=some t:=by unfold parseV;rw[hval];simp[hd,hgd]
      rw[PS0.out,this])
     have HGD:=hidI hgd
     clear hval hd hgd
     go_wp2_with fail
     refine(Good_at _ _ _ t _ (by exact K4.out.2.2.2.1)).mono ?_
     rintro e w5 ⟨rfl,hb5⟩
     rw[HGD.out]
     have K5:Hid (BoxIs w5 w.heap.size (.int .i64 0) (.int .i64 0) (.string ⟨#[]⟩) (.slice none 0 0) (.slice none 0 0)/\BoxIs w5 w3.heap.size (.int .i64 t.kind) (.int .i64 t.n) (.string ⟨t.s.toArray⟩) (.slice a7 t.keys.length c7) (.slice a8 t.l.length c8)/\VIs w5 (fun k=>w.heap.size+2<=k) (l.length+1) t (.agg #[.int .i64 t.kind,.int .i64 t.n,.string ⟨t.s.toArray⟩,.slice a7 t.keys.length c7,.slice a8 t.l.length c8])/\w.grownBy w5 none):=⟨box_bel hb5 K4.out.2.1,box_bel hb5 K4.out.2.2.1,K4.out.2.2.2.1.bel hb5,gb_trans K4.out.2.2.2.2 (gb_below hb5)⟩
     clear hb5 p0 p1 p2 p3 p4 c0 c1 c2
     obtain⟨p0,p1,p2,p3,p4,-⟩:=K5.out.2.1.c
     obtain⟨x0,x1,x2,x3,x4,y0,y1,y2,y3,y4⟩:=K5.out.1.c
     obtain⟨z0,z1,z2,z3,z4,-⟩:=(K5.out.1.set (.int .i64 t.kind) (.int .i64 t.n) (.string ⟨t.s.toArray⟩) (.slice a7 t.keys.length c7) (.slice a8 t.l.length c8)).c
     have Z:Hid (_/\_/\_/\_/\_):=⟨z0,z1,z2,z3,z4⟩
     clear z0 z1 z2 z3 z4
     go_wp2_with fail
     obtain⟨z0,z1,z2,z3,z4⟩:=Z.out
     refine bodyPost_ret (v:=.tuple #[(.agg #[.int .i64 t.kind,.int .i64 t.n,.string ⟨t.s.toArray⟩,.slice a7 t.keys.length c7,.slice a8 t.l.length c8]),.int .i64 0]) ?_ rfl ?_
     ·simp only[set5]at z0 z1 z2 z3 z4
      simp[results,Tryz.results30,go_sem,z0,z1,z2,z3,z4]
     ·refine⟨t,0,a7,a8,c7,c8,rfl,PS.out,?_,gb_none (gb_set5 K5.out.2.2.2 (Nat.le_refl _) _ _ _ _ _)⟩
      exact((K5.out.2.2.1.grown (set5_gb w5 w.heap.size (.int .i64 t.kind) (.int .i64 t.n) (.string ⟨t.s.toArray⟩) (.slice a7 t.keys.length c7) (.slice a8 t.l.length c8)) (fun k hk e=>by simp at e;omega)).weak (fun k hk=>by omega)).le (by omega)
    | false=>
     have PS:Hid (parseS l=(leafV 0 0 [],1)):=hidI (by
      have:parseV l=none:=by unfold parseV;rw[hval];simp[hgd]
      rw[PS0.out,this])
     have HGD:=hidI hgd
     clear hval hd hgd
     go_wp2_with fail
     refine(Good_at _ _ _ t _ (by exact K4.out.2.2.2.1)).mono ?_
     rintro e w5 ⟨rfl,hb5⟩
     rw[HGD.out]
     have EN:Hid (BoxIs w5 w.heap.size (.int .i64 0) (.int .i64 0) (.string ⟨#[]⟩) (.slice none 0 0) (.slice none 0 0)/\w.grownBy w5 none):=⟨box_bel hb5 K4.out.2.1,gb_trans K4.out.2.2.2.2 (gb_below hb5)⟩
     clear hb5 p0 p1 p2 p3 p4 c0 c1 c2
     obtain⟨x0,x1,x2,x3,x4,y0,y1,y2,y3,y4⟩:=EN.out.1.c
     obtain⟨z0,z1,z2,z3,z4,-⟩:=(EN.out.1.set (.int .i64 0) (.int .i64 0) (.string ⟨#[]⟩) (.slice none 0 0) (.slice none 0 0)).c
     have Z:Hid (_/\_/\_/\_/\_):=⟨z0,z1,z2,z3,z4⟩
     clear z0 z1 z2 z3 z4
     go_wp2_with fail
     obtain⟨z0,z1,z2,z3,z4⟩:=Z.out
     refine bodyPost_ret (v:=.tuple #[leaf 0 0 [],.int .i64 1]) ?_ rfl ?_
     ·simp only[set5]at z0 z1 z2 z3 z4
      simp[results,Tryz.results30,go_sem,z0,z1,z2,z3,z4,leaf,str]
     ·exact⟨leafV 0 0 [],1,none,none,0,0,rfl,PS.out,leaf_is _ _ 2002 _ _ _ (by unfold I64;omega) (by unfold I64;omega) (by simp),gb_none (gb_set5 EN.out.2 (Nat.le_refl _) _ _ _ _ _)⟩
end Go.Proofs.YtmdemcjmcnfjmaaGreatDoor
namespace Go.Proofs.YtmdemcjmcnfjmaaGreatDoor
open Go.RowKit
def wantT:V:=⟨5,0,[],[[97],[98]],[⟨2,1,[],[],[]⟩,⟨5,0,[],[[99]],[⟨2,2,[],[],[]⟩]⟩]⟩
theorem want_parse:parseS [123,34,97,34,58,49,44,34,98,34,58,123,34,99,34,58,50,125,125]=(wantT,0):=by kernel_rfl
theorem want_good:goodV wantT=true:=by kernel_rfl
theorem obj_good:goodV objT=true:=by kernel_rfl
theorem want_leaves:leavesF wantT=[[47,97],[47,98,47,99]]:=by kernel_rfl
theorem want_laid:laidAllF wantT [[47,97],[47,98,47,99]] objT=wantT:=by kernel_rfl
theorem want_apply:applyF objT [] [109,101] wantT false=(wantT,[⟨[109,101],[[47,97],[47,98,47,99]]⟩],[],0):=by
 have e1:othersF objT wantT [] [109,101]=[]:=rfl
 have e2:resultF objT wantT [] [109,101]=wantT:=by
  show laidAllF wantT (leavesF wantT) (clearedF (leavesF wantT) (othersF objT wantT [] [109,101]) [] objT)=wantT
  rw[want_leaves]
  exact want_laid
 have e3:withOwnF [] ⟨[109,101],[[47,97],[47,98,47,99]]⟩=[⟨[109,101],[[47,97],[47,98,47,99]]⟩]:=rfl
 unfold applyF
 rw[if_pos ⟨⟨rfl,obj_good⟩,⟨rfl,want_good⟩,by kernel_rfl,by kernel_rfl⟩,if_neg (fun h=>h.1 rfl),e1,e2,want_leaves,e3,if_pos ⟨want_good,by simp⟩]
theorem in_obj (w:World) (ok:Nat->Prop):In w ok objT (.agg #[.int .i64 5,.int .i64 0,.string ⟨#[]⟩,.slice none 0 0,.slice none 0 0]):=⟨1,_,_,rfl,by unfold I64;simp[objT],by unfold I64;simp[objT],by simp[objT,maxLen],⟨by simp[objT,maxLen],.inl ⟨rfl,none,rfl⟩⟩,⟨by simp[objT,maxLen],.inl ⟨rfl,none,rfl⟩⟩⟩
set_option maxRecDepth 100000 in
set_option maxHeartbeats 4000000 in
theorem owns_at (w:World) (hG:Glob w) (hM:GlobM w):Calls Tryz.prog 7 #[] w fun e w'=>e=.returned (.bool true)/\Below w.heap.size w w':=by
 have HM:=hidI hM
 have PC:Hid (Calls Tryz.prog 30 #[.string ⟨#[123,34,97,34,58,49,44,34,98,34,58,123,34,99,34,58,50,125,125]⟩] w fun e w'=>∃ (a7 a8:Option Addr) (c7 c8:Nat),e=.returned (.tuple #[(.agg #[.int .i64 wantT.kind,.int .i64 wantT.n,.string ⟨wantT.s.toArray⟩,.slice a7 wantT.keys.length c7,.slice a8 wantT.l.length c8]),.int .i64 0])/\In w' (fun _=>True) wantT (.agg #[.int .i64 wantT.kind,.int .i64 wantT.n,.string ⟨wantT.s.toArray⟩,.slice a7 wantT.keys.length c7,.slice a8 wantT.l.length c8])/\Below w.heap.size w w'):=hidI (by
  refine(parse_at w [123,34,97,34,58,49,44,34,98,34,58,123,34,99,34,58,50,125,125] (by simp[maxLen]) hG).mono ?_
  rintro e w' ⟨t,ee,a7,a8,c7,c8,rfl,hp,hv,hb⟩
  rw[want_parse]at hp
  cases hp
  exact⟨a7,a8,c7,c8,rfl,⟨_,hv.imp fun a x _ h=>⟨trivial,h⟩⟩,hb⟩)
 generalize hT:wantT=T at PC
 have HT:=hidI hT
 clear hG hM hT
 go_enter Tryz.func7,Tryz.ntmps7
 go_upto_region 2 with (go_at_call 30;refine PC.out.mono ?_;rintro e w1 ⟨a7,a8,c7,c8,rfl,hi,hb⟩;have B1:=hidI hb;have I1:=hidI hi;clear hi hb)
 obtain⟨W2,hW2⟩:∃ W,W=w1.alloc (.cells #[.int .i64 T.kind,.int .i64 T.n,.string ⟨T.s.toArray⟩,.slice a7 T.keys.length c7,.slice a8 T.l.length c8] 25):=⟨_,rfl⟩
 have Y2:Hid (Below w1.heap.size w1 W2):=hidI (by rw[hW2];exact bel_alloc _ _)
 have X2:Hid (BoxIs W2 w1.heap.size (.int .i64 T.kind) (.int .i64 T.n) (.string ⟨T.s.toArray⟩) (.slice a7 T.keys.length c7) (.slice a8 T.l.length c8)):=hidI (by rw[hW2];exact heap_alloc_new _ _)
 rw[<-hW2]
 clear hW2
 have B2:=hidI (bel_trans B1.out Y2.out)
 obtain⟨p0,p1,p2,p3,p4,-⟩:=X2.out.c
 have AP:Hid (Calls Tryz.prog 6 #[.agg #[.int .i64 5,.int .i64 0,.string ⟨#[]⟩,.slice none 0 0,.slice none 0 0],.slice none 0 0,.string ⟨#[109,101]⟩,.agg #[.int .i64 T.kind,.int .i64 T.n,.string ⟨T.s.toArray⟩,.slice a7 T.keys.length c7,.slice a8 T.l.length c8],.bool false] W2 fun e w'=>∃ (a9 b9:Option Addr) (c9 d9:Nat) (b off oc pb po pc:Nat) (rc:Value),
  e=.returned (.tuple #[.agg #[.int .i64 T.kind,.int .i64 T.n,.string ⟨T.s.toArray⟩,.slice a9 T.keys.length c9,.slice b9 T.l.length d9],.slice (some ⟨b,off,none⟩) 1 oc,rc,.int .i64 0])/\In w' (fun _=>True) T (.agg #[.int .i64 T.kind,.int .i64 T.n,.string ⟨T.s.toArray⟩,.slice a9 T.keys.length c9,.slice b9 T.l.length d9]) /\
  w'.cell? ⟨b,off+1,none⟩=some (.slice (some ⟨pb,po,none⟩) 2 pc)/\w'.cell? ⟨pb,po+1,none⟩=some (.string ⟨#[47,98,47,99]⟩)/\Below W2.heap.size W2 w'):=hidI (by
  refine(apply_at W2 (fun _=>True) objT T [] [109,101] false _ _ _ (in_obj _ _) (OwnsAre.nil _ _) (I1.out.bel Y2.out) (HM.out.bel B2.out) (by simp[allOf]) (by simp) (by simp)).mono ?_
  rintro e w' ⟨r,ro,rc,rfl,h1,h2,-,hb⟩
  rw[<-HT.out,want_apply]at h1 h2 ⊢
  rw[HT.out]at h1
  obtain⟨a9,b9,c9,d9,rfl⟩:=h1.form
  obtain⟨oa,oc,rfl⟩:=h2.form
  obtain⟨b,off,pa,pc,rfl,-,-,-,k2,k3,-⟩:=h2.at (k:=0) (by simp)
  obtain⟨pb,po,rfl,-,-,k4⟩:=strs_at k3 (k:=1) (by simp)
  rw[HT.out]
  exact⟨a9,b9,c9,d9,b,off,oc,pb,po,pc,rc,rfl,h1.weak fun _ _=>trivial,by simpa using k2,k4,hb⟩)
 go_upto_region 3 with (go_at_call 6;refine AP.out.mono ?_;rintro e w3 ⟨a9,b9,c9,d9,b,off,oc,pb,po,pc,rc,rfl,h1,h2,h3,hb⟩;have K2:=hidI h2;have K3:=hidI h3;have I3:=hidI h1;have B3:=hidI hb;clear h1 h2 h3 hb)
 clear p0 p1 p2 p3 p4
 obtain⟨W4,hW4⟩:∃ W,W=w3.alloc (.cells #[.int .i64 T.kind,.int .i64 T.n,.string ⟨T.s.toArray⟩,.slice a9 T.keys.length c9,.slice b9 T.l.length d9] 25):=⟨_,rfl⟩
 have Y4:Hid (Below w3.heap.size w3 W4):=hidI (by rw[hW4];exact bel_alloc _ _)
 have X4:Hid (BoxIs W4 w3.heap.size (.int .i64 T.kind) (.int .i64 T.n) (.string ⟨T.s.toArray⟩) (.slice a9 T.keys.length c9) (.slice b9 T.l.length d9)):=hidI (by rw[hW4];exact heap_alloc_new _ _)
 rw[<-hW4]
 clear hW4
 have q0:=cell_bel Y4.out K2.out
 have q1:=cell_bel Y4.out K3.out
 obtain⟨p0,p1,p2,p3,p4,-⟩:=X4.out.c
 obtain⟨o0,o1,o2,o3,o4,-⟩:=(box_bel (bel_trans B3.out Y4.out) X2.out).c
 have B4:=hidI (bel_trans (bel_trans B2.out B3.out) Y4.out)
 have SM:=hidI (same_run W4 _ _ T T _ _ (I3.out.bel Y4.out) (((I1.out.bel Y2.out).bel B3.out).bel Y4.out) (by rw[<-HT.out];have:=nice_cnt (nice_of want_good);omega))
 go_wp2_with (go_at_call 31;refine SM.out.mono ?_;rintro e w5 ⟨r,rfl,hr,hb⟩;have hrt:=hr.2 rfl;subst hrt;have B5:=hidI (bel_trans B4.out hb);clear hr hb)
 go_ret
 exact⟨rfl,B5.out⟩
end Go.Proofs.YtmdemcjmcnfjmaaGreatDoor
namespace Go.Proofs.YtmdemcjmcnfjmaaGreatDoor
open Go.RowKit
def SameC (d:Nat):Prop:=∀ (w:World) (ok ok':Nat->Prop) (a b:V) (va vb:Value),VIs w ok d a va->VIs w ok' d b vb ->
 Calls Tryz.prog 8 #[va,vb] w fun e w'=>e=.returned (.bool (sameS d a b))/\Below w.heap.size w w'
set_option maxRecDepth 100000 in
set_option maxHeartbeats 8000000 in
theorem same_succ (d:Nat) (ih:SameC d):SameC (d+1):=by
 intro w ok ok' a b va vb ha hb
 obtain⟨a1,a2,c1,c2,rfl⟩:=ha.shape
 obtain⟨b1,b2,d1,d2,rfl⟩:=hb.shape
 have IH:=hidI ih
 have lA:a.keys.length<=maxLen/\a.l.length<=maxLen:=by obtain⟨ks,ls,e,h1,h2,h3,h4,h5⟩:=ha;exact⟨h4.1,h5.1⟩
 have lB:b.keys.length<=maxLen/\b.l.length<=maxLen:=by obtain⟨ks,ls,e,h1,h2,h3,h4,h5⟩:=hb;exact⟨h4.1,h5.1⟩
 unfold maxLen at lA lB
 obtain⟨lA1,lA2⟩:=lA
 obtain⟨lB1,lB2⟩:=lB
 have HA:=hidI ha
 have HB:=hidI hb
 clear ha hb ih
 by_cases hk:¬(a.kind=b.kind)
 ·have F:Hid (sameS (d+1) a b=false):=hidI (by simp[sameS,hk])
  have Ehk:(a.kind == b.kind)=false:=by rw[beq_eq_false_iff_ne];exact hk
  have Nhk:(a.kind != b.kind)=true:=by simp[bne,Ehk]
  go_enter Tryz.func8,Tryz.ntmps8
  go_wp2_with fail
  all_goals
   go_ret
   rw[F.out]
   exact⟨rfl,bel_trans (bel_alloc _ _) (bel_alloc _ _)⟩
 rw[Decidable.not_not]at hk
 by_cases hn:¬(a.n=b.n)
 ·have F:Hid (sameS (d+1) a b=false):=hidI (by simp[sameS,hn])
  have Ehk:(a.kind == b.kind)=true:=by rw[beq_iff_eq];exact hk
  have Ehn:(a.n == b.n)=false:=by rw[beq_eq_false_iff_ne];exact hn
  have Nhn:(a.n != b.n)=true:=by simp[bne,Ehn]
  clear hk
  go_enter Tryz.func8,Tryz.ntmps8
  go_wp2_with fail
  all_goals
   go_ret
   rw[F.out]
   exact⟨rfl,bel_trans (bel_alloc _ _) (bel_alloc _ _)⟩
 rw[Decidable.not_not]at hn
 by_cases hs:¬(a.s=b.s)
 ·have F:Hid (sameS (d+1) a b=false):=hidI (by simp[sameS,hs])
  have Ehk:(a.kind == b.kind)=true:=by rw[beq_iff_eq];exact hk
  have Ehn:(a.n == b.n)=true:=by rw[beq_iff_eq];exact hn
  have Ehs:(ByteArray.mk a.s.toArray == ByteArray.mk b.s.toArray)=false:=ba_ne (by simpa using hs)
  have Nhs:(ByteArray.mk a.s.toArray != ByteArray.mk b.s.toArray)=true:=by simp[bne,Ehs]
  clear hk hn
  go_enter Tryz.func8,Tryz.ntmps8
  go_wp2_with fail
  all_goals
   go_ret
   rw[F.out]
   exact⟨rfl,bel_trans (bel_alloc _ _) (bel_alloc _ _)⟩
 rw[Decidable.not_not]at hs
 by_cases hkl:¬(a.keys.length=b.keys.length)
 ·have hkx:a.keys≠b.keys:=fun e=>hkl (by rw[e])
  have F:Hid (sameS (d+1) a b=false):=hidI (by simp[sameS,hkx])
  have Ehk:(a.kind == b.kind)=true:=by rw[beq_iff_eq];exact hk
  have Ehn:(a.n == b.n)=true:=by rw[beq_iff_eq];exact hn
  have Ehs:(ByteArray.mk a.s.toArray == ByteArray.mk b.s.toArray)=true:=ba_eq (by simpa using hs)
  have Ehkl:((a.keys.length:Int) == (b.keys.length:Int))=false:=by rw[beq_eq_false_iff_ne];omega
  have Nhkl:((a.keys.length:Int) != (b.keys.length:Int))=true:=by simp only[bne,Ehkl,Bool.not_false]
  clear hkx
  clear hk hn hs
  go_enter Tryz.func8,Tryz.ntmps8
  go_wp2_with fail
  all_goals
   go_ret
   rw[F.out]
   exact⟨rfl,bel_trans (bel_alloc _ _) (bel_alloc _ _)⟩
 rw[Decidable.not_not]at hkl
 by_cases hll:¬(a.l.length=b.l.length)
 ·have F:Hid (sameS (d+1) a b=false):=hidI (by simp[sameS,hll])
  have Ehk:(a.kind == b.kind)=true:=by rw[beq_iff_eq];exact hk
  have Ehn:(a.n == b.n)=true:=by rw[beq_iff_eq];exact hn
  have Ehs:(ByteArray.mk a.s.toArray == ByteArray.mk b.s.toArray)=true:=ba_eq (by simpa using hs)
  have Ehkl:((a.keys.length:Int) == (b.keys.length:Int))=true:=by rw[beq_iff_eq];omega
  have Ehll:((a.l.length:Int) == (b.l.length:Int))=false:=by rw[beq_eq_false_iff_ne];omega
  have Nhll:((a.l.length:Int) != (b.l.length:Int))=true:=by simp only[bne,Ehll,Bool.not_false]
  clear hk hn hs hkl
  go_enter Tryz.func8,Tryz.ntmps8
  go_wp2_with fail
  all_goals
   go_ret
   rw[F.out]
   exact⟨rfl,bel_trans (bel_alloc _ _) (bel_alloc _ _)⟩
 rw[Decidable.not_not]at hll
 have FS:Hid (sameS (d+1) a b=(decide (a.keys=b.keys)&&allS (sameS d) a.l b.l)):=hidI (by simp[sameS,hk,hn,hs,hll])
 have HKL:=hidI hkl
 have HLL:=hidI hll
 rw[<-hk,<-hn,<-hs,<-hkl,<-hll]at HB ⊢
 have es:(ByteArray.mk a.s.toArray == ByteArray.mk a.s.toArray)=true:=ba_eq rfl
 have I0:Hid (SameI w ((w.alloc (.cells #[.int .i64 a.kind,.int .i64 a.n,.string ⟨a.s.toArray⟩,.slice a1 a.keys.length c1,.slice a2 a.l.length c2] 25)).alloc (.cells #[.int .i64 a.kind,.int .i64 a.n,.string ⟨a.s.toArray⟩,.slice b1 a.keys.length d1,.slice b2 a.l.length d2] 25)) ok ok' (d+1) a b a.kind a.n a.s a.keys.length a.l.length a1 a2 b1 b2 c1 c2 d1 d2):=
  ⟨h2a w _ _,h2b w _ _,HA.out.bel (bel_trans (bel_alloc _ _) (bel_alloc _ _)),HB.out.bel (bel_trans (bel_alloc _ _) (bel_alloc _ _)),bel_trans (bel_alloc _ _) (bel_alloc _ _)⟩
 clear hk hn hs hkl hll
 go_enter Tryz.func8,Tryz.ntmps8
 go_wp2_with fail
 go_loopg [47] a.keys.length (fun gk i wr=>∃ (k:Nat),k<=a.keys.length/\gk=a.keys.length - k/\i=.int .i64 k/\(∀ j,j < k->a.keys[j]?=b.keys[j]?)/\SameI w wr ok ok' (d+1) a b a.kind a.n a.s a.keys.length a.l.length a1 a2 b1 b2 c1 c2 d1 d2)
 case atStart=>exact⟨0,Nat.zero_le _,rfl,rfl,fun j hj=>absurd hj (by omega),I0.out⟩
 case round=>
  obtain⟨k,hk,hgk,rfl,hke,hI⟩:=hrel
  have A:=hidI (And.intro hke hI)
  obtain⟨x0,x1,x2,x3,x4,-⟩:=hI.1.c
  obtain⟨y0,y1,y2,y3,y4,-⟩:=hI.2.1.c
  clear hke
  by_cases hlt:k < a.keys.length
  ·have hlt2:k < b.keys.length:=by rw[<-HKL.out];exact hlt
   obtain⟨g1,o1,rfl,z1,z2,z3⟩:∃ g1 o1,a1=some ⟨g1,o1,none⟩/\a.keys.length<=c1/\c1<=maxLen/\wr.cell? ⟨g1,o1+k,none⟩=some (.string ⟨a.keys[k].toArray⟩):=by
    obtain⟨ks,ls,e,-,-,-,h4,-⟩:=hI.2.2.1
    simp only[Value.agg.injEq,Array.mk.injEq,List.cons.injEq,and_true]at e
    obtain⟨-,-,-,rfl,-⟩:=e
    exact strs_at h4 hlt
   obtain⟨g2,o2,rfl,z4,z5,z6⟩:∃ g2 o2,b1=some ⟨g2,o2,none⟩/\b.keys.length<=d1/\d1<=maxLen/\wr.cell? ⟨g2,o2+k,none⟩=some (.string ⟨b.keys[k].toArray⟩):=by
    obtain⟨ks,ls,e,-,-,-,h4,-⟩:=hI.2.2.2.1
    simp only[Value.agg.injEq,Array.mk.injEq,List.cons.injEq,and_true]at e
    obtain⟨-,-,-,rfl,-⟩:=e
    exact strs_at h4 hlt2
   unfold maxLen at z2 z5
   clear hI
   by_cases hq:a.keys[k]=b.keys[k]
   ·rw[<-hq]at z6
    have q1:(ByteArray.mk a.keys[k].toArray == ByteArray.mk a.keys[k].toArray)=true:=ba_eq rfl
    have HQ:=hidI hq
    clear hq
    go_wp2_with fail
    go_quiet (fail)
    go_wp2_with fail
    go_roundg (a.keys.length - (k+1))
    case measure=>omega
    case rel=>
     refine⟨k+1,hlt,rfl,by go_num,?_,A.out.2.drewN _⟩
     intro j hj
     by_cases hjk:j < k
     ·exact A.out.1 j hjk
     ·have:j=k:=by omega
      subst this
      rw[List.getElem?_eq_getElem hlt,List.getElem?_eq_getElem hlt2,HQ.out]
   ·have q1:(ByteArray.mk a.keys[k].toArray == ByteArray.mk b.keys[k].toArray)=false:=ba_ne (by simpa using hq)
    have q2:(a.keys[k] == b.keys[k])=false:=by rw[beq_eq_false_iff_ne];exact hq
    have HQ:=hidI hq
    clear hq
    go_wp2_with fail
    go_quiet (fail)
    go_wp2_with fail
    go_ret
    refine⟨?_,(A.out.2.drewN _).2.2.2.2⟩
    have hne:a.keys≠b.keys:=by
     intro e
     apply HQ.out
     have:=congrArg (fun l=>l[k]?) e
     simp only[List.getElem?_eq_getElem hlt,List.getElem?_eq_getElem hlt2,Option.some.injEq]at this
     exact this
    rw[FS.out]
    simp[hne]
  ·have hke:Hid (a.keys=b.keys):=hidI (by
    apply List.ext_getElem?
    intro j
    by_cases hj:j < k
    ·exact A.out.1 j hj
    ·have h1:a.keys.length<=j:=by omega
     rw[List.getElem?_eq_none h1,List.getElem?_eq_none (by rw[<-HKL.out];exact h1)])
   have AI:=hidI A.out.2
   clear hI A x0 x1 x2 x3 x4 y0 y1 y2 y3 y4
   obtain⟨x0,x1,x2,x3,x4,-⟩:=AI.out.1.c
   obtain⟨y0,y1,y2,y3,y4,-⟩:=AI.out.2.1.c
   go_wp2_with fail
   go_loopg [65] a.l.length (fun gk i wr=>∃ (k:Nat),k<=a.l.length/\gk=a.l.length - k/\i=.int .i64 k/\(∀ (j:Nat) (x y:V),j < k->a.l[j]?=some x->b.l[j]?=some y->sameS d x y=true)/\SameI w wr ok ok' (d+1) a b a.kind a.n a.s a.keys.length a.l.length a1 a2 b1 b2 c1 c2 d1 d2)
   case atStart=>exact⟨0,Nat.zero_le _,rfl,rfl,fun j x y hj=>absurd hj (by omega),AI.out⟩
   case round=>
    obtain⟨k',hk',hgk',rfl,hall,hI⟩:=hrel
    have A:=hidI (And.intro hall hI)
    clear hall x0 x1 x2 x3 x4 y0 y1 y2 y3 y4
    by_cases hlt':k' < a.l.length
    ·have hltb:k' < b.l.length:=by rw[<-HLL.out];exact hlt'
     obtain⟨g1,o1,rfl,z1,z2,a5,c5,a6,c6,p0,p1,p2,p3,p4,p5⟩:∃ g1 o1,a2=some ⟨g1,o1,none⟩/\a.l.length<=c2/\c2<=maxLen/\_:=by
      obtain⟨ks,ls,e,-,-,-,-,h5⟩:=hI.2.2.1
      simp only[Value.agg.injEq,Array.mk.injEq,List.cons.injEq,and_true]at e
      obtain⟨-,-,-,-,rfl⟩:=e
      exact vals_at h5 hlt'
     obtain⟨g2,o2,rfl,z4,z5,a5',c5',a6',c6',q0,q1,q2,q3,q4,q5⟩:∃ g2 o2,b2=some ⟨g2,o2,none⟩/\b.l.length<=d2/\d2<=maxLen/\_:=by
      obtain⟨ks,ls,e,-,-,-,-,h5⟩:=hI.2.2.2.1
      simp only[Value.agg.injEq,Array.mk.injEq,List.cons.injEq,and_true]at e
      obtain⟨-,-,-,-,rfl⟩:=e
      exact vals_at h5 hltb
     unfold maxLen at z2 z5
     have x4:=hI.1.c.2.2.2.2.1
     have y4:=hI.2.1.c.2.2.2.2.1
     have CALL:Hid (∀ w',Below wr.heap.size wr w'->Calls Tryz.prog 8 #[.agg #[.int .i64 a.l[k'].kind,.int .i64 a.l[k'].n,.string ⟨a.l[k'].s.toArray⟩,.slice a5 a.l[k'].keys.length c5,.slice a6 a.l[k'].l.length c6],.agg #[.int .i64 b.l[k'].kind,.int .i64 b.l[k'].n,.string ⟨b.l[k'].s.toArray⟩,.slice a5' b.l[k'].keys.length c5',.slice a6' b.l[k'].l.length c6']] w' fun e w3=>e=.returned (.bool (sameS d a.l[k'] b.l[k']))/\Below wr.heap.size wr w3 /\
      w3.cell? ⟨w.heap.size,4,none⟩=some (.slice (some ⟨g1,o1,none⟩) a.l.length c2)/\w3.cell? ⟨w.heap.size+1,4,none⟩=some (.slice (some ⟨g2,o2,none⟩) a.l.length d2) /\
      w3.cell? ⟨g1,o1+k' * 5,none⟩=some (.int .i64 a.l[k'].kind)/\w3.cell? ⟨g1,o1+k' * 5+1,none⟩=some (.int .i64 a.l[k'].n)/\w3.cell? ⟨g1,o1+k' * 5+2,none⟩=some (.string ⟨a.l[k'].s.toArray⟩)/\w3.cell? ⟨g1,o1+k' * 5+3,none⟩=some (.slice a5 a.l[k'].keys.length c5)/\w3.cell? ⟨g1,o1+k' * 5+4,none⟩=some (.slice a6 a.l[k'].l.length c6) /\
      w3.cell? ⟨g2,o2+k' * 5,none⟩=some (.int .i64 b.l[k'].kind)/\w3.cell? ⟨g2,o2+k' * 5+1,none⟩=some (.int .i64 b.l[k'].n)/\w3.cell? ⟨g2,o2+k' * 5+2,none⟩=some (.string ⟨b.l[k'].s.toArray⟩)/\w3.cell? ⟨g2,o2+k' * 5+3,none⟩=some (.slice a5' b.l[k'].keys.length c5')/\w3.cell? ⟨g2,o2+k' * 5+4,none⟩=some (.slice a6' b.l[k'].l.length c6')):=by
      intro w' hb'
      refine(IH.out w' ok ok' a.l[k'] b.l[k'] _ _ (p5.bel hb') (q5.bel hb')).mono ?_
      rintro e w3 ⟨rfl,hb3⟩
      have hb4:=bel_trans hb' hb3
      exact⟨rfl,hb4,cell_bel hb4 x4,cell_bel hb4 y4,cell_bel hb4 p0,cell_bel hb4 p1,cell_bel hb4 p2,cell_bel hb4 p3,cell_bel hb4 p4,cell_bel hb4 q0,cell_bel hb4 q1,cell_bel hb4 q2,cell_bel hb4 q3,cell_bel hb4 q4⟩
     clear hI p5 q5
     go_wp2_with fail
     go_region_held3 (fun w3=>w3.cell? ⟨w.heap.size,4,none⟩=some (.slice (some ⟨g1,o1,none⟩) a.l.length c2)/\w3.cell? ⟨w.heap.size+1,4,none⟩=some (.slice (some ⟨g2,o2,none⟩) a.l.length d2) /\
      w3.cell? ⟨g1,o1+k' * 5,none⟩=some (.int .i64 a.l[k'].kind)/\w3.cell? ⟨g1,o1+k' * 5+1,none⟩=some (.int .i64 a.l[k'].n)/\w3.cell? ⟨g1,o1+k' * 5+2,none⟩=some (.string ⟨a.l[k'].s.toArray⟩)/\w3.cell? ⟨g1,o1+k' * 5+3,none⟩=some (.slice a5 a.l[k'].keys.length c5)/\w3.cell? ⟨g1,o1+k' * 5+4,none⟩=some (.slice a6 a.l[k'].l.length c6) /\
      w3.cell? ⟨g2,o2+k' * 5,none⟩=some (.int .i64 b.l[k'].kind)/\w3.cell? ⟨g2,o2+k' * 5+1,none⟩=some (.int .i64 b.l[k'].n)/\w3.cell? ⟨g2,o2+k' * 5+2,none⟩=some (.string ⟨b.l[k'].s.toArray⟩)/\w3.cell? ⟨g2,o2+k' * 5+3,none⟩=some (.slice a5' b.l[k'].keys.length c5')/\w3.cell? ⟨g2,o2+k' * 5+4,none⟩=some (.slice a6' b.l[k'].l.length c6')) (go_keep)
      (first | (go_at_call 8;refine(CALL.out _ (by exact⟨rfl,rfl,rfl,Nat.le_refl _,fun _ _=>rfl⟩)).mono ?_;rintro e w3 ⟨rfl,hb3,s1,s2,s3,s4,s5,s6,s7,s8,s9,s10,s11,s12⟩))
     all_goals
      have A3:=hidI (A.out.2.below hb3)
      clear s1 s2 s3 s4 s5 s6 s7 s8 s9 s10 s11 s12 hb3 p0 p1 p2 p3 p4 q0 q1 q2 q3 q4 x4 y4
      cases hr:sameS d a.l[k'] b.l[k'] with
      | true=>
       have HR:=hidI hr
       clear hr
       go_wp2_with fail
       go_roundg (a.l.length - (k'+1))
       case measure=>omega
       case rel=>
        refine⟨k'+1,hlt',rfl,by go_num,?_,A3.out⟩
        intro j x y hj hx hy
        by_cases hjk:j < k'
        ·exact A.out.1 j x y hjk hx hy
        ·have:j=k':=by omega
         subst this
         rw[List.getElem?_eq_getElem hlt']at hx
         rw[List.getElem?_eq_getElem hltb]at hy
         cases hx
         cases hy
         exact HR.out
      | false=>
       have HR:=hidI hr
       clear hr
       go_wp2_with fail
       go_ret
       refine⟨?_,A3.out.2.2.2.2⟩
       have hno:allS (sameS d) a.l b.l=false:=by
        cases h9:allS (sameS d) a.l b.l with
        | false=>rfl
        | true=>
         have:=(allS_iff _ _).1 h9 k' _ _ (List.getElem?_eq_getElem hlt') (List.getElem?_eq_getElem hltb)
         rw[HR.out]at this
         cases this
       rw[FS.out,hno,Bool.and_false]
       rfl
    ·have A3:=hidI A.out
     clear hI A
     go_wp2_with fail
     go_ret
     refine⟨?_,A3.out.2.2.2.2.2⟩
     have hyes:allS (sameS d) a.l b.l=true:=(allS_iff _ _).2 fun j x y hx hy=>A3.out.1 j x y (by have:=(List.getElem?_eq_some_iff.1 hx).1;omega) hx hy
     rw[FS.out,hyes,hke.out]
     simp
theorem same_all (d:Nat):SameC d:=by
 induction d with
 | zero=>exact fun _ _ _ _ _ _ _ h=>h.elim
 | succ d ih=>exact same_succ d ih
end Go.Proofs.YtmdemcjmcnfjmaaGreatDoor
namespace Go.Proofs.YtmdemcjmcnfjmaaGreatDoor
open Go.RowKit
theorem same_is (w:World) (ok ok':Nat->Prop) (t:V) (va vb:Value) (ha:In w ok t va) (hb:In w ok' t vb) :
 Calls Tryz.prog 8 #[va,vb] w fun e w'=>e=.returned (.bool true)/\Below w.heap.size w w':=by
 obtain⟨d,ha⟩:=ha
 obtain⟨d',hb⟩:=hb
 have h1:=VIs.le (show d<=d+d' by omega) ha
 refine(same_all (d+d') w _ _ t t va vb h1 (VIs.le (by omega) hb)).mono ?_
 rintro e w' ⟨rfl,hb⟩
 exact⟨by rw[sameS_refl _ h1],hb⟩
end Go.Proofs.YtmdemcjmcnfjmaaGreatDoor
namespace Go.Proofs.YtmdemcjmcnfjmaaGreatDoor
open Go.RowKit
def numV (o:Option Nat):Value:=.tuple #[.int .i64 (o.getD 0:Nat),.bool o.isSome]
theorem numF_drop {s:List UInt8} {k m:Nat} (h:k < s.length):numF m (s.drop k)=if 48<=s[k].toNat/\s[k].toNat<=57 then numF (m * 10+(s[k].toNat - 48)) (s.drop (k+1)) else none:=by
 rw[List.drop_eq_getElem_cons h,numF]
set_option maxRecDepth 100000 in
set_option maxHeartbeats 4000000 in
theorem number_at (w:World) (s:List UInt8) (hs:s.length<=9223372036854775807) :
 Calls Tryz.prog 114 #[str s] w fun e w'=>e=.returned (numV (numP s))/\w'=w:=by
 unfold str
 have hF:∀ w':World,w'=w->numP s=none->(Ending.returned (.tuple #[.int .i64 0,.bool false])=Ending.returned (numV (numP s))/\w'=w):=by
  intro w' h1 h2;rw[h2];exact⟨rfl,h1⟩
 have HF:=hidI hF
 clear hF
 cases s with
 | nil=>
  have HP:Hid (numP []=none):=hidI rfl
  have hne:(ByteArray.mk ([]:List UInt8).toArray == ByteArray.mk #[])=true:=ba_eq (by simp)
  go_enter Tryz.func114,Tryz.ntmps114
  go_wp2_with fail
  refine bodyPost_ret (v:=.tuple #[.int .i64 0,.bool false]) (by simp[results,Tryz.results114,go_sem] <;> rfl) rfl ?_
  exact HF.out _ rfl HP.out
 | cons c r=>
  have hne:(ByteArray.mk (c :: r).toArray == ByteArray.mk #[])=false:=ba_ne (by simp)
  have hsz:0 < (ByteArray.mk (c :: r).toArray).size:=by rw[ba_size];simp
  have hget:(ByteArray.mk (c :: r).toArray)[0]=c:=rfl
  have hbyte:(c.toNat:Int) < 256:=by have:=c.toNat_lt;omega
  by_cases h4:4 < r.length+1
  ·have h4':4 < (r.length:Int)+1:=by omega
   have HP:Hid (numP (c :: r)=none):=hidI (by unfold numP;rw[if_pos (.inr (.inl h4))])
   go_enter Tryz.func114,Tryz.ntmps114
   go_wp2_with fail
   refine bodyPost_ret (v:=.tuple #[.int .i64 0,.bool false]) (by simp[results,Tryz.results114,go_sem] <;> rfl) rfl ?_
   exact HF.out _ rfl HP.out
  ·have h4':¬(4 < (r.length:Int)+1):=by omega
   by_cases hb:c=48/\r≠[]
   ·have HP:Hid (numP (c :: r)=none):=hidI (by unfold numP;rw[if_pos (.inr (.inr ⟨by rw[hb.1];rfl,by intro e;simp only[List.cons.injEq]at e;exact hb.2 e.2⟩))])
    have q1:((c.toNat:Int) == 48)=true:=by rw[hb.1];rfl
    have q2:(c == 48)=true:=by rw[beq_iff_eq];exact hb.1
    have q3:r.isEmpty=false:=by cases r with | nil=>exact absurd rfl hb.2 | cons _ _=>rfl
    clear hb
    go_enter Tryz.func114,Tryz.ntmps114
    go_wp2_with fail
    refine bodyPost_ret (v:=.tuple #[.int .i64 0,.bool false]) (by simp[results,Tryz.results114,go_sem] <;> rfl) rfl ?_
    exact HF.out _ rfl HP.out
   ·have HP:Hid (numP (c :: r)=numF 0 (c :: r)):=hidI (by
     unfold numP
     rw[if_neg]
     rintro (h | h | ⟨h1,h2⟩)
     ·cases h
     ·exact h4 h
     ·simp only[List.head?_cons,Option.some.injEq]at h1
      exact hb ⟨h1,fun e=>h2 (by rw[h1,e])⟩)
    have hq:((c.toNat:Int) == 48)=false\/((c.toNat:Int) == 48)=true/\(c == 48)=true/\r.isEmpty=true:=by
     by_cases hc:c=48
     ·have hr:r=[]:=Decidable.byContradiction fun h=>hb ⟨hc,h⟩
      exact .inr ⟨by rw[hc];rfl,by rw[hc];rfl,by rw[hr];rfl⟩
     ·refine .inl ?_
      rw[beq_eq_false_iff_ne]
      intro e
      exact hc (UInt8.toNat_inj.1 (by show c.toNat=48;omega))
    clear hb
    have hl4:(c :: r).length<=4:=by simp only[List.length_cons];omega
    rcases hq with q1 | ⟨q1,q2,q3⟩
    all_goals
     go_enter Tryz.func114,Tryz.ntmps114
     go_wp2_with fail
     go_loop [4,5] (fun n i=>∃ k m:Nat,k<=(c :: r).length/\i=.int .i64 k/\n=.int .i64 m/\numF 0 (c :: r)=numF m ((c :: r).drop k)/\m+1<=10 ^ k) (fun _ i=>(c :: r).length - (intOf i).toNat)
     case atStart=>exact⟨0,0,Nat.zero_le _,rfl,rfl,rfl,by simp⟩
     case round=>
      obtain⟨k,m,hk,rfl,rfl,hrec,hm⟩:=hrel
      have HR:=hidI hrec
      clear hrec
      have hp4:10 ^ k<=10 ^ 4:=Nat.pow_le_pow_right (by omega) (by omega)
      have HM:=hidI hm
      have hm4:m<=9999:=by simp only[Nat.reducePow]at hp4;omega
      clear hm hp4
      by_cases hlt:k < (c :: r).length
      ·have hlt':(k:Int) < (r.length:Int)+1:=by simp only[List.length_cons]at hlt;omega
       have hb:((c :: r)[k].toNat:Int) < 256:=by have:=(c :: r)[k].toNat_lt;omega
       have hszk:k < (ByteArray.mk (c :: r).toArray).size:=by rw[ba_size];exact hlt
       have hgetk:(ByteArray.mk (c :: r).toArray)[k]=(c :: r)[k]:=rfl
       have ND:=hidI (numF_drop (m:=m) hlt)
       by_cases hlo:(c :: r)[k].toNat < 48
       ·have e1:((c :: r)[k].toNat:Int) < 48:=by omega
        go_wp2_with fail
        refine bodyPost_ret (v:=.tuple #[.int .i64 0,.bool false]) (by simp[results,Tryz.results114,go_sem] <;> rfl) rfl ?_
        exact HF.out _ rfl (by rw[HP.out,HR.out,ND.out,if_neg (by omega)])
       ·have e1:¬(((c :: r)[k].toNat:Int) < 48):=by omega
        by_cases hhi:57 < (c :: r)[k].toNat
        ·have e2:57 < ((c :: r)[k].toNat:Int):=by omega
         go_wp2_with fail
         refine bodyPost_ret (v:=.tuple #[.int .i64 0,.bool false]) (by simp[results,Tryz.results114,go_sem] <;> rfl) rfl ?_
         exact HF.out _ rfl (by rw[HP.out,HR.out,ND.out,if_neg (by omega)])
        ·have e2:¬(57 < ((c :: r)[k].toNat:Int)):=by omega
         have hw1:IntKind.u8.wrap (((c :: r)[k].toNat:Int) - 48)=((c :: r)[k].toNat:Int) - 48:=by rw[IntKind.wrap_u8];omega
         go_wp2_with fail
         go_round
         case rel=>
          refine⟨k+1,m * 10+((c :: r)[k].toNat - 48),hlt,by go_num,?_,by rw[HR.out,ND.out,if_pos (by omega)],?_⟩
          ·go_num
          ·have:=HM.out;rw[Nat.pow_succ];omega
         case measure=>simp[intOf];omega
      ·have hke:k=(c :: r).length:=by omega
       have hlt':¬((k:Int) < (r.length:Int)+1):=by simp only[List.length_cons]at hlt;omega
       have HKE:=hidI hke
       clear hlt hke
       go_wp2_with fail
       refine bodyPost_ret (v:=.tuple #[.int .i64 m,.bool true]) (by simp[results,Tryz.results114,go_sem] <;> rfl) rfl ?_
       rw[HP.out,HR.out,HKE.out,List.drop_length]
       exact⟨rfl,rfl⟩
set_option maxRecDepth 100000 in
set_option maxHeartbeats 4000000 in
theorem place_at (w:World) (a:Option Addr) (n c:Nat) (s:List UInt8) (hn:n<=9223372036854775807) (hs:s.length<=9223372036854775807) :
 Calls Tryz.prog 71 #[.slice a n c,str s] w fun e w'=>e=.returned (numV (placeP n s))/\w'=w:=by
 by_cases h:s=[45]
 ·have hb:(s == [45])=true:=by rw[beq_iff_eq];exact h
  have HP:Hid (placeP n s=some n):=hidI (by unfold placeP;rw[if_pos h])
  clear h
  unfold str
  go_enter Tryz.func71,Tryz.ntmps71
  go_wp2_with fail
  refine bodyPost_ret (v:=.tuple #[.int .i64 n,.bool true]) (by simp[results,Tryz.results71,go_sem] <;> rfl) rfl ?_
  rw[HP.out];exact⟨rfl,rfl⟩
 ·have hb:(s == [45])=false:=by rw[beq_eq_false_iff_ne];exact h
  cases hq:numP s with
  | none=>
   have HP:Hid (placeP n s=none):=hidI (by unfold placeP;rw[if_neg h,hq];rfl)
   have HQ:=hidI hq
   clear h hq
   unfold str
   go_enter Tryz.func71,Tryz.ntmps71
   go_wp2_with fail
   refine(number_at _ s hs).mono ?_
   rintro e w1 ⟨rfl,hw⟩
   rw[hw,HQ.out]
   unfold numV
   clear hw
   go_wp2_with fail
   refine bodyPost_ret (v:=.tuple #[.int .i64 0,.bool false]) (by simp[results,Tryz.results71,go_sem] <;> rfl) rfl ?_
   rw[HP.out];exact⟨rfl,rfl⟩
  | some i=>
   have HQ:=hidI hq
   by_cases hi:i<=n
   ·have HP:Hid (placeP n s=some i):=hidI (by unfold placeP;rw[if_neg h,hq,Option.bind_some,if_pos hi])
    have e1:¬((n:Int) < (i:Int)):=by omega
    clear h hq
    unfold str
    go_enter Tryz.func71,Tryz.ntmps71
    go_wp2_with fail
    refine(number_at _ s hs).mono ?_
    rintro e w1 ⟨rfl,hw⟩
    rw[hw,HQ.out]
    unfold numV
    clear hw
    go_wp2_with fail
    refine bodyPost_ret (v:=.tuple #[.int .i64 i,.bool true]) (by simp[results,Tryz.results71,go_sem] <;> rfl) rfl ?_
    rw[HP.out];exact⟨rfl,rfl⟩
   ·have HP:Hid (placeP n s=none):=hidI (by unfold placeP;rw[if_neg h,hq,Option.bind_some,if_neg hi])
    have e1:(n:Int) < (i:Int):=by omega
    clear h hq
    unfold str
    go_enter Tryz.func71,Tryz.ntmps71
    go_wp2_with fail
    refine(number_at _ s hs).mono ?_
    rintro e w1 ⟨rfl,hw⟩
    rw[hw,HQ.out]
    unfold numV
    clear hw
    go_wp2_with fail
    refine bodyPost_ret (v:=.tuple #[.int .i64 0,.bool false]) (by simp[results,Tryz.results71,go_sem] <;> rfl) rfl ?_
    rw[HP.out];exact⟨rfl,rfl⟩
end Go.Proofs.YtmdemcjmcnfjmaaGreatDoor
namespace Go.Proofs.YtmdemcjmcnfjmaaGreatDoor
open Go.RowKit
theorem rows_at {w:World} {ok:Nat->Prop} {d:Nat} {l:List V} {a:Option Addr} {n c:Nat} (h:ValsAre w ok (VIs w ok d) l (.slice a n c)) (i j:Nat) (hij:i<=j) (hj:j<=l.length) (hl:l.length<=1000000) :
 ∃ cs1 cs2 v1 v3,RowV (VIs w ok d) (l.take i) cs1/\RowV (VIs w ok d) (l.drop j) cs2/\SlIs w 5 v1 i cs1/\SlIs w 5 v3 (l.length - j) cs2/\(c=0/\l.length=0/\v1=.slice a 0 0/\v3=.slice a l.length 0\/∃ b off,a=some ⟨b,off,none⟩/\l.length<=c/\c<=9223372036854775807/\v1=.slice (some ⟨b,off,none⟩) i c/\v3=.slice (if c=j then some ⟨b,off,none⟩ else some ⟨b,off+j * 5,none⟩) (l.length - j) (c - j)):=by
 have h':=h
 obtain⟨_,K5⟩:=h
 rcases K5 with⟨e,e2⟩ | ⟨b,off,c,hls,hc1,hc2,hcs⟩
 ·obtain⟨a0,e2⟩:=e2
  simp only[Value.slice.injEq]at e2
  obtain⟨-,e3,e6⟩:=e2
  subst e6
  have e4:l.length=0:=by rw[e];rfl
  have e5:j=0:=by omega
  have e7:i=0:=by omega
  refine⟨[],[],_,_,?_,?_,?_,?_,.inl ⟨rfl,e4,rfl,rfl⟩⟩
  ·rw[e,List.take_nil];rfl
  ·rw[e,List.drop_nil];rfl
  ·rw[e7];exact slnil w 5 a
  ·rw[e4,e5];exact slnil w 5 a
 ·simp only[Value.slice.injEq]at hls
  obtain⟨rfl,rfl,rfl⟩:=hls
  obtain⟨cs1,cs2,r1,s1,r2,s2⟩:=sl_parts h' i j hij hj hl
  exact⟨cs1,cs2,_,_,r1,r2,s1,s2,.inr ⟨b,off,rfl,hc1,hc2,rfl,rfl⟩⟩
set_option maxRecDepth 100000 in
set_option maxHeartbeats 4000000 in
theorem meant_is (w:World) (ok:Nat->Prop) (t:V) (v:Value) (s:List UInt8) (h:In w ok t v) (hs:s.length<=9223372036854775807) :
 Calls Tryz.prog 37 #[v,str s] w fun e w'=>∃ x b,e=.returned (.tuple #[x,.bool b])/\Below w.heap.size w w'/\OptIn w' ok (meantV t s) x b:=by
 have H:=hidI h.low
 have HO:=hidI h
 obtain⟨l1,l2,l3⟩:=h.lens
 obtain⟨a1,a2,c1,c2,rfl⟩:=h.form
 clear h
 by_cases hk:t.kind=4
 ·have q1:(t.kind == 4)=true:=by rw[hk];rfl
  have q2:(t.kind != 4)=false:=by rw[hk];rfl
  by_cases hm:∃ i,placeP t.l.length s=some i/\i < t.l.length
  ·obtain⟨i,hp,hi⟩:=hm
   have HM:Hid (meantV t s=some t.l[i]):=hidI (by unfold meantV;rw[if_pos hk,hp,Option.bind_some,List.getElem?_eq_getElem hi])
   have HP:=hidI hp
   have e1:((i:Int) == (t.l.length:Int))=false:=by rw[beq_eq_false_iff_ne];omega
   clear hp hk
   obtain⟨b,off,a5,c5,a6,c6,rfl,hc1,hc2,g0,g1,g2,g3,g4,g5⟩:=HO.out.item hi
   have G:Hid (_/\_/\_/\_/\_):=⟨g0,g1,g2,g3,g4⟩
   have G5:=hidI g5.low
   clear g0 g1 g2 g3 g4 g5
   go_enter Tryz.func37,Tryz.ntmps37
   go_wp2_with fail
   refine(place_at _ _ t.l.length c2 s l2 hs).mono ?_
   rintro e w1 ⟨rfl,hw⟩
   rw[HP.out]
   unfold numV
   have hb1:Below w.heap.size w w1:=by rw[hw];exact bel_trans (bel_alloc _ _) (bel_alloc _ _)
   have hbx:BoxIs w1 (w.heap.size+1) (.int .i64 0) (.int .i64 0) (.string ⟨#[]⟩) (.slice none 0 0) (.slice none 0 0):=by rw[hw];exact h2b w _ _
   have hbv:BoxIs w1 w.heap.size (.int .i64 t.kind) (.int .i64 t.n) (.string ⟨t.s.toArray⟩) (.slice a1 t.keys.length c1) (.slice (some ⟨b,off,none⟩) t.l.length c2):=by rw[hw];exact h2a w _ _
   obtain⟨-,-,-,-,p4,-⟩:=hbv.c
   obtain⟨x0,x1,x2,x3,x4,y0,y1,y2,y3,y4⟩:=hbx.c
   have Z:Hid (Below w.heap.size w w1/\BoxIs (set5 w1 (w.heap.size+1) (.int .i64 t.l[i].kind) (.int .i64 t.l[i].n) (.string ⟨t.l[i].s.toArray⟩) (.slice a5 t.l[i].keys.length c5) (.slice a6 t.l[i].l.length c6)) (w.heap.size+1) (.int .i64 t.l[i].kind) (.int .i64 t.l[i].n) (.string ⟨t.l[i].s.toArray⟩) (.slice a5 t.l[i].keys.length c5) (.slice a6 t.l[i].l.length c6)):=⟨hb1,hbx.set _ _ _ _ _⟩
   obtain⟨g0,g1,g2,g3,g4⟩:=G.out
   have m0:=cell_bel hb1 g0
   have m1:=cell_bel hb1 g1
   have m2:=cell_bel hb1 g2
   have m3:=cell_bel hb1 g3
   have m4:=cell_bel hb1 g4
   clear hw hb1 hbx hbv g0 g1 g2 g3 g4 G
   simp only[Option.getD_some,Option.isSome_some]
   go_wp2_with fail
   obtain⟨z0,z1,z2,z3,z4,-⟩:=Z.out.2.c
   refine bodyPost_ret (v:=.tuple #[.agg #[.int .i64 t.l[i].kind,.int .i64 t.l[i].n,.string ⟨t.l[i].s.toArray⟩,.slice a5 t.l[i].keys.length c5,.slice a6 t.l[i].l.length c6],.bool true]) ?_ rfl ?_
   ·simp only[set5]at z0 z1 z2 z3 z4
    simp[results,Tryz.results37,go_sem,z0,z1,z2,z3,z4]
   ·refine⟨_,_,rfl,bel_set5 Z.out.1 (Nat.le_succ _) _ _ _ _ _,?_⟩
    rw[HM.out]
    exact OptIn.some (((G5.out.bel Z.out.1).grown (set5_gb w1 _ _ _ _ _ _) (fun k hk=>by omega)).weak fun k hk=>hk.1)
  ·have HM:Hid (meantV t s=none):=hidI (by
    unfold meantV
    rw[if_pos hk]
    cases hp:placeP t.l.length s with
    | none=>rfl
    | some i=>rw[Option.bind_some,List.getElem?_eq_none];exact Nat.le_of_not_lt fun h=>hm ⟨i,hp,h⟩)
   have hq:((placeP t.l.length s).isSome=false/\placeP t.l.length s=none)\/placeP t.l.length s=some t.l.length:=by
    cases hp:placeP t.l.length s with
    | none=>exact .inl ⟨rfl,rfl⟩
    | some i=>
     have h1:=place_le hp
     have h2:¬i < t.l.length:=fun h=>hm ⟨i,hp,h⟩
     exact .inr (by rw[show i=t.l.length by omega])
   have e1:((t.l.length:Int) == (t.l.length:Int))=true:=by simp
   clear hm hk
   rcases hq with⟨-,hp⟩ | hp
   all_goals
    have HP:=hidI hp
    clear hp
    go_enter Tryz.func37,Tryz.ntmps37
    go_wp2_with fail
    refine(place_at _ _ t.l.length c2 s l2 hs).mono ?_
    rintro e w1 ⟨rfl,hw⟩
    rw[HP.out]
    unfold numV
    have hb1:Below w.heap.size w w1:=by rw[hw];exact bel_trans (bel_alloc _ _) (bel_alloc _ _)
    have hbx:BoxIs w1 (w.heap.size+1) (.int .i64 0) (.int .i64 0) (.string ⟨#[]⟩) (.slice none 0 0) (.slice none 0 0):=by rw[hw];exact h2b w _ _
    have hbv:BoxIs w1 w.heap.size (.int .i64 t.kind) (.int .i64 t.n) (.string ⟨t.s.toArray⟩) (.slice a1 t.keys.length c1) (.slice a2 t.l.length c2):=by rw[hw];exact h2a w _ _
    obtain⟨-,-,-,-,p4,-⟩:=hbv.c
    obtain⟨x0,x1,x2,x3,x4,y0,y1,y2,y3,y4⟩:=hbx.c
    have Z:Hid (Below w.heap.size w w1/\BoxIs (set5 w1 (w.heap.size+1) (.int .i64 0) (.int .i64 0) (.string ⟨#[]⟩) (.slice none 0 0) (.slice none 0 0)) (w.heap.size+1) (.int .i64 0) (.int .i64 0) (.string ⟨#[]⟩) (.slice none 0 0) (.slice none 0 0)):=⟨hb1,hbx.set _ _ _ _ _⟩
    clear hw hb1 hbx hbv
    simp only[Option.getD_some,Option.isSome_some,Option.getD_none,Option.isSome_none]
    go_wp2_with fail
    obtain⟨z0,z1,z2,z3,z4,-⟩:=Z.out.2.c
    refine bodyPost_ret (v:=.tuple #[.agg #[.int .i64 0,.int .i64 0,.string ⟨#[]⟩,.slice none 0 0,.slice none 0 0],.bool false]) ?_ rfl ?_
    ·simp only[set5]at z0 z1 z2 z3 z4
     simp[results,Tryz.results37,go_sem,z0,z1,z2,z3,z4]
    ·refine⟨_,_,rfl,bel_set5 Z.out.1 (Nat.le_succ _) _ _ _ _ _,?_⟩
     rw[HM.out]
     exact OptIn.none (in_zero _ _)
 ·have q1:(t.kind == 4)=false:=by rw[beq_eq_false_iff_ne];exact hk
  have q2:(t.kind != 4)=true:=by rw[bne_iff_ne];exact hk
  have HM:Hid (meantV t s=memV t s):=hidI (by unfold meantV;rw[if_neg hk])
  clear hk
  go_enter Tryz.func37,Tryz.ntmps37
  go_wp2_with fail
  refine(member_is _ (fun k=>ok k/\k < w.heap.size) t _ s (by exact H.out.bel (bel_trans (bel_alloc _ _) (bel_alloc _ _)))).mono ?_
  rintro e w1 ⟨x,b,rfl,hb1,hb2,y,hy,hyz⟩
  obtain⟨a5,a6,c5,c6,rfl⟩:=hy.form
  have R:Hid (Below w.heap.size w w1/\b=(meantV t s).isSome/\In w1 (fun k=>ok k/\k < w.heap.size) y (.agg #[.int .i64 y.kind,.int .i64 y.n,.string ⟨y.s.toArray⟩,.slice a5 y.keys.length c5,.slice a6 y.l.length c6])/\∀ z,meantV t s=some z->y=z):=
   ⟨bel_trans (bel_trans (bel_alloc _ _) (bel_alloc _ _)) hb1,by rw[HM.out];exact hb2,hy,by rw[HM.out];exact hyz⟩
  have hbx:BoxIs w1 (w.heap.size+1) (.int .i64 0) (.int .i64 0) (.string ⟨#[]⟩) (.slice none 0 0) (.slice none 0 0):=box_bel hb1 (h2b w _ _)
  obtain⟨x0,x1,x2,x3,x4,y0,y1,y2,y3,y4⟩:=hbx.c
  have Z:Hid (BoxIs (set5 w1 (w.heap.size+1) (.int .i64 y.kind) (.int .i64 y.n) (.string ⟨y.s.toArray⟩) (.slice a5 y.keys.length c5) (.slice a6 y.l.length c6)) (w.heap.size+1) (.int .i64 y.kind) (.int .i64 y.n) (.string ⟨y.s.toArray⟩) (.slice a5 y.keys.length c5) (.slice a6 y.l.length c6)):=hbx.set _ _ _ _ _
  clear hb1 hb2 hy hyz hbx
  go_wp2_with fail
  obtain⟨z0,z1,z2,z3,z4,-⟩:=Z.out.c
  refine bodyPost_ret (v:=.tuple #[.agg #[.int .i64 y.kind,.int .i64 y.n,.string ⟨y.s.toArray⟩,.slice a5 y.keys.length c5,.slice a6 y.l.length c6],.bool b]) ?_ rfl ?_
  ·simp only[set5]at z0 z1 z2 z3 z4
   simp[results,Tryz.results37,go_sem,z0,z1,z2,z3,z4]
  ·obtain⟨r1,r2,r3,r4⟩:=R.out
   refine⟨_,_,rfl,bel_set5 r1 (Nat.le_succ _) _ _ _ _ _,r2,y,?_,r4⟩
   exact(r3.grown (set5_gb w1 _ _ _ _ _ _) (fun k hk=>by omega)).weak fun k hk=>hk.1
end Go.Proofs.YtmdemcjmcnfjmaaGreatDoor
namespace Go.Proofs.YtmdemcjmcnfjmaaGreatDoor
open Go.RowKit
def GetI (w:World) (ok:Nat->Prop) (t:V) (ns:List (List UInt8)) (na:Option Addr) (nc k:Nat) (wr:World):Prop:=
 ∃ (y:V) (a5 a6:Option Addr) (c5 c6:Nat),getV ns t=getV (ns.drop k) y/\BoxIs wr w.heap.size (.int .i64 y.kind) (.int .i64 y.n) (.string ⟨y.s.toArray⟩) (.slice a5 y.keys.length c5) (.slice a6 y.l.length c6)/\BoxIs wr (w.heap.size+1) (.int .i64 0) (.int .i64 0) (.string ⟨#[]⟩) (.slice none 0 0) (.slice none 0 0)/\Below w.heap.size w wr /\
  In wr (fun k=>ok k/\k < w.heap.size) y (.agg #[.int .i64 y.kind,.int .i64 y.n,.string ⟨y.s.toArray⟩,.slice a5 y.keys.length c5,.slice a6 y.l.length c6])/\StrsAre wr (fun k=>w.heap.size+2<=k) ns (.slice na ns.length nc)
set_option maxRecDepth 100000 in
set_option maxHeartbeats 40000000 in
theorem get_is (w:World) (ok:Nat->Prop) (t:V) (v:Value) (p:List UInt8) (h:In w ok t v) (hp:p.length<=140737488351232) (hM:GlobM w) :
 Calls Tryz.prog 14 #[v,str p] w fun e w'=>∃ r,e=.returned (.tuple #[r,.int .i64 (getR (splitP p) t).2])/\Below w.heap.size w w'/\In w' ok (getR (splitP p) t).1 r:=by
 have H:=hidI h.low
 have HMM:=hidI hM
 obtain⟨l1,l2,l3⟩:=h.lens
 obtain⟨a1,a2,c1,c2,rfl⟩:=h.form
 clear h hM
 go_enter Tryz.func14,Tryz.ntmps14
 go_wp2_with fail
 refine(split_all _ p hp (by exact HMM.out.bel (bel_trans (bel_alloc _ _) (bel_alloc _ _)))).mono ?_
 rintro e w1 ⟨ns,ee,na,nc,rfl,hsp,hns,hb1⟩
 have SP:=hidI hsp
 have nlen:=hns.1
 unfold maxLen at nlen
 have K1:Hid (BoxIs w1 w.heap.size (.int .i64 t.kind) (.int .i64 t.n) (.string ⟨t.s.toArray⟩) (.slice a1 t.keys.length c1) (.slice a2 t.l.length c2)/\BoxIs w1 (w.heap.size+1) (.int .i64 0) (.int .i64 0) (.string ⟨#[]⟩) (.slice none 0 0) (.slice none 0 0)/\Below w.heap.size w w1/\StrsAre w1 (fun k=>w.heap.size+2<=k) ns (.slice na ns.length nc)):=⟨box_bel hb1 (h2a w _ _),box_bel hb1 (h2b w _ _),bel_trans (bel_trans (bel_alloc _ _) (bel_alloc _ _)) hb1,hns.imp fun a x hx hc=>⟨by simpa using hx,hc⟩⟩
 clear hb1 hns hsp
 by_cases he:ee=0
 ·subst he
  obtain⟨p0,p1,p2,p3,p4,-⟩:=K1.out.1.c
  go_wp2_with fail
  refine(good_is _ (fun k=>ok k/\k < w.heap.size) t _ (by exact H.out.bel K1.out.2.2.1)).mono ?_
  rintro e w2 ⟨rfl,hb2⟩
  have K2:Hid (BoxIs w2 w.heap.size (.int .i64 t.kind) (.int .i64 t.n) (.string ⟨t.s.toArray⟩) (.slice a1 t.keys.length c1) (.slice a2 t.l.length c2)/\BoxIs w2 (w.heap.size+1) (.int .i64 0) (.int .i64 0) (.string ⟨#[]⟩) (.slice none 0 0) (.slice none 0 0)/\Below w.heap.size w w2/\StrsAre w2 (fun k=>w.heap.size+2<=k) ns (.slice na ns.length nc)):=⟨box_bel hb2 K1.out.1,box_bel hb2 K1.out.2.1,bel_trans K1.out.2.2.1 hb2,K1.out.2.2.2.bel hb2⟩
  clear hb2 p0 p1 p2 p3 p4 K1
  cases hg:goodV t with
  | false=>
   obtain⟨x0,x1,x2,x3,x4,y0,y1,y2,y3,y4⟩:=(K2.out.2.1).c
   have Z:=hidI (bel_set5 K2.out.2.2.1 (Nat.le_succ w.heap.size) (.int .i64 0) (.int .i64 0) (.string ⟨#[]⟩) (.slice none 0 0) (.slice none 0 0))
   have ZB:=hidI ((K2.out.2.1).set (.int .i64 0) (.int .i64 0) (.string ⟨#[]⟩) (.slice none 0 0) (.slice none 0 0))
   have HA:Hid (getR (splitP p) t=(zeroT,1)):=hidI (by rw[SP.out];unfold getR;rw[if_neg (by simp),if_pos hg])
   clear hg
   go_wp2_with fail
   obtain⟨z0,z1,z2,z3,z4,-⟩:=ZB.out.c
   refine bodyPost_ret (v:=.tuple #[.agg #[.int .i64 0,.int .i64 0,.string ⟨#[]⟩,.slice none 0 0,.slice none 0 0],.int .i64 1]) ?_ rfl ?_
   ·simp only[set5]at z0 z1 z2 z3 z4
    simp[results,Tryz.results14,go_sem,z0,z1,z2,z3,z4]
   ·refine⟨_,by rw[HA.out],Z.out,?_⟩
    rw[HA.out]
    exact in_zero _ _
  | true=>
   have HG:=hidI hg
   clear hg
   have S0:Hid (GetI w ok t ns na nc 0 w2):=⟨t,a1,a2,c1,c2,rfl,K2.out.1,K2.out.2.1,K2.out.2.2.1,H.out.bel K2.out.2.2.1,K2.out.2.2.2⟩
   clear K2
   go_wp2_with fail
   go_loopg [27] ns.length (fun gk i wr=>∃ k:Nat,k<=ns.length/\gk=ns.length - k/\i=.int .i64 k/\GetI w ok t ns na nc k wr)
   case atStart=>exact⟨0,Nat.zero_le _,rfl,rfl,S0.out⟩
   case round=>
    obtain⟨k,hk,hgk,rfl,y,a5,a6,c5,c6,i1,i2,i3,i4,i5,i6⟩:=hrel
    have GK:=hidI hgk
    have I:Hid (getV ns t=getV (ns.drop k) y/\BoxIs wr w.heap.size (.int .i64 y.kind) (.int .i64 y.n) (.string ⟨y.s.toArray⟩) (.slice a5 y.keys.length c5) (.slice a6 y.l.length c6)/\BoxIs wr (w.heap.size+1) (.int .i64 0) (.int .i64 0) (.string ⟨#[]⟩) (.slice none 0 0) (.slice none 0 0)/\Below w.heap.size w wr/\In wr (fun k=>ok k/\k < w.heap.size) y (.agg #[.int .i64 y.kind,.int .i64 y.n,.string ⟨y.s.toArray⟩,.slice a5 y.keys.length c5,.slice a6 y.l.length c6])/\StrsAre wr (fun k=>w.heap.size+2<=k) ns (.slice na ns.length nc)):=⟨i1,i2,i3,i4,i5,i6⟩
    obtain⟨p0,p1,p2,p3,p4,p5,p6,p7,p8,p9⟩:=i2.c
    clear hgk i1 i2 i3 i4 i5 i6
    by_cases hlt:k < ns.length
    ·obtain⟨nb,no,rfl,hc1,hc2,hc⟩:=strs_cells I.out.2.2.2.2.2 hlt
     unfold maxLen at hc2
     have hsl:ns[k].length<=9223372036854775807:=I.out.2.2.2.2.2.mem _ (List.getElem_mem _)
     go_wp2_with fail
     refine(meant_is _ (fun k=>ok k/\k < w.heap.size) y _ ns[k] (by exact I.out.2.2.2.2.1) hsl).mono ?_
     rintro e w3 ⟨r,b,rfl,hb3,hb,u,hu,huz⟩
     obtain⟨b5,b6,d5,d6,rfl⟩:=hu.form
     have hbb:=bel_trans hb3 (bel_alloc w3 (.cells #[.int .i64 u.kind,.int .i64 u.n,.string ⟨u.s.toArray⟩,.slice b5 u.keys.length d5,.slice b6 u.l.length d6] 25))
     have K3:Hid (BoxIs (w3.alloc (.cells #[.int .i64 u.kind,.int .i64 u.n,.string ⟨u.s.toArray⟩,.slice b5 u.keys.length d5,.slice b6 u.l.length d6] 25)) w.heap.size (.int .i64 y.kind) (.int .i64 y.n) (.string ⟨y.s.toArray⟩) (.slice a5 y.keys.length c5) (.slice a6 y.l.length c6)/\BoxIs (w3.alloc (.cells #[.int .i64 u.kind,.int .i64 u.n,.string ⟨u.s.toArray⟩,.slice b5 u.keys.length d5,.slice b6 u.l.length d6] 25)) (w.heap.size+1) (.int .i64 0) (.int .i64 0) (.string ⟨#[]⟩) (.slice none 0 0) (.slice none 0 0)/\Below w.heap.size w (w3.alloc (.cells #[.int .i64 u.kind,.int .i64 u.n,.string ⟨u.s.toArray⟩,.slice b5 u.keys.length d5,.slice b6 u.l.length d6] 25))/\BoxIs (w3.alloc (.cells #[.int .i64 u.kind,.int .i64 u.n,.string ⟨u.s.toArray⟩,.slice b5 u.keys.length d5,.slice b6 u.l.length d6] 25)) w3.heap.size (.int .i64 u.kind) (.int .i64 u.n) (.string ⟨u.s.toArray⟩) (.slice b5 u.keys.length d5) (.slice b6 u.l.length d6)/\In (w3.alloc (.cells #[.int .i64 u.kind,.int .i64 u.n,.string ⟨u.s.toArray⟩,.slice b5 u.keys.length d5,.slice b6 u.l.length d6] 25)) (fun k=>ok k/\k < w.heap.size) u (.agg #[.int .i64 u.kind,.int .i64 u.n,.string ⟨u.s.toArray⟩,.slice b5 u.keys.length d5,.slice b6 u.l.length d6])/\StrsAre (w3.alloc (.cells #[.int .i64 u.kind,.int .i64 u.n,.string ⟨u.s.toArray⟩,.slice b5 u.keys.length d5,.slice b6 u.l.length d6] 25)) (fun k=>w.heap.size+2<=k) ns (.slice (some ⟨nb,no,none⟩) ns.length nc)):=⟨box_bel hbb I.out.2.1,box_bel hbb I.out.2.2.1,bel_trans I.out.2.2.2.1 hbb,heap_alloc_new w3 _,hu.bel (bel_alloc _ _),I.out.2.2.2.2.2.bel hbb⟩
     have GS:Hid (getV (ns.drop k) y=(meantV y ns[k]).bind (getV (ns.drop (k+1)))):=hidI (by rw[List.drop_eq_getElem_cons hlt,getV])
     clear hb3 hbb hu hc p0 p1 p2 p3 p4 p5 p6 p7 p8 p9
     obtain⟨o0,o1,o2,o3,o4,o5,o6,o7,o8,o9⟩:=K3.out.1.c
     obtain⟨q0,q1,q2,q3,q4,-⟩:=K3.out.2.2.2.1.c
     cases hm:meantV y ns[k] with
     | none=>
      rw[hm]at hb
      simp only[Option.isSome_none]at hb
      subst hb
      obtain⟨x0,x1,x2,x3,x4,y0,y1,y2,y3,y4⟩:=(K3.out.2.1).c
      have Z:=hidI (bel_set5 K3.out.2.2.1 (Nat.le_succ w.heap.size) (.int .i64 0) (.int .i64 0) (.string ⟨#[]⟩) (.slice none 0 0) (.slice none 0 0))
      have ZB:=hidI ((K3.out.2.1).set (.int .i64 0) (.int .i64 0) (.string ⟨#[]⟩) (.slice none 0 0) (.slice none 0 0))
      have HA:Hid (getR (splitP p) t=(zeroT,3)):=hidI (by rw[SP.out];unfold getR;rw[if_neg (by simp),if_neg (by simp[HG.out]),I.out.1,GS.out,hm];rfl)
      clear hm huz o0 o1 o2 o3 o4 o5 o6 o7 o8 o9 q0 q1 q2 q3 q4
      go_wp2_with fail
      obtain⟨z0,z1,z2,z3,z4,-⟩:=ZB.out.c
      refine bodyPost_ret (v:=.tuple #[.agg #[.int .i64 0,.int .i64 0,.string ⟨#[]⟩,.slice none 0 0,.slice none 0 0],.int .i64 3]) ?_ rfl ?_
      ·simp only[set5]at z0 z1 z2 z3 z4
       simp[results,Tryz.results14,go_sem,z0,z1,z2,z3,z4]
      ·refine⟨_,by rw[HA.out],Z.out,?_⟩
       rw[HA.out]
       exact in_zero _ _
     | some z9=>
      rw[hm]at hb
      simp only[Option.isSome_some]at hb
      subst hb
      obtain rfl:=huz z9 hm
      have HM:=hidI hm
      have FIN:Hid (GetI w ok t ns (some ⟨nb,no,none⟩) nc (k+1) (set5 (w3.alloc (.cells #[.int .i64 u.kind,.int .i64 u.n,.string ⟨u.s.toArray⟩,.slice b5 u.keys.length d5,.slice b6 u.l.length d6] 25)) w.heap.size (.int .i64 u.kind) (.int .i64 u.n) (.string ⟨u.s.toArray⟩) (.slice b5 u.keys.length d5) (.slice b6 u.l.length d6))):=by
       have g1:=set5_gb (w3.alloc (.cells #[.int .i64 u.kind,.int .i64 u.n,.string ⟨u.s.toArray⟩,.slice b5 u.keys.length d5,.slice b6 u.l.length d6] 25)) w.heap.size (.int .i64 u.kind) (.int .i64 u.n) (.string ⟨u.s.toArray⟩) (.slice b5 u.keys.length d5) (.slice b6 u.l.length d6)
       refine⟨u,b5,b6,d5,d6,?_,K3.out.1.set _ _ _ _ _,K3.out.2.1.grown g1 (by simp),bel_set5 K3.out.2.2.1 (Nat.le_refl _) _ _ _ _ _,K3.out.2.2.2.2.1.grown g1 (fun k hk=>by omega),K3.out.2.2.2.2.2.imp (cells_grown g1 (fun k hk e=>by cases e;omega))⟩
       rw[I.out.1,GS.out,HM.out];rfl
      clear hm huz K3
      go_wp2_with fail
      go_roundg (ns.length - (k+1))
      case measure=>rw[GK.out];omega
      case rel=>exact⟨k+1,hlt,rfl,by go_num,FIN.out⟩
    ·have hke:k=ns.length:=by omega
     subst hke
     obtain⟨x0,x1,x2,x3,x4,y0,y1,y2,y3,y4⟩:=I.out.2.2.1.c
     have Z:=hidI (bel_set5 I.out.2.2.2.1 (Nat.le_succ w.heap.size) (.int .i64 y.kind) (.int .i64 y.n) (.string ⟨y.s.toArray⟩) (.slice a5 y.keys.length c5) (.slice a6 y.l.length c6))
     have ZI:=hidI ((I.out.2.2.2.2.1.grown (set5_gb wr (w.heap.size+1) (.int .i64 y.kind) (.int .i64 y.n) (.string ⟨y.s.toArray⟩) (.slice a5 y.keys.length c5) (.slice a6 y.l.length c6)) (fun k hk=>by omega)).weak fun k hk=>hk.1)
     have ZB:=hidI (I.out.2.2.1.set (.int .i64 y.kind) (.int .i64 y.n) (.string ⟨y.s.toArray⟩) (.slice a5 y.keys.length c5) (.slice a6 y.l.length c6))
     have HA:Hid (getR (splitP p) t=(y,0)):=hidI (by rw[SP.out];refine get_ok rfl HG.out ?_;rw[I.out.1,List.drop_length];rfl)
     go_wp2_with fail
     obtain⟨z0,z1,z2,z3,z4,-⟩:=ZB.out.c
     refine bodyPost_ret (v:=.tuple #[.agg #[.int .i64 y.kind,.int .i64 y.n,.string ⟨y.s.toArray⟩,.slice a5 y.keys.length c5,.slice a6 y.l.length c6],.int .i64 0]) ?_ rfl ?_
     ·simp only[set5]at z0 z1 z2 z3 z4
      simp[results,Tryz.results14,go_sem,z0,z1,z2,z3,z4]
     ·refine⟨_,by rw[HA.out],Z.out,?_⟩
      rw[HA.out]
      exact ZI.out
 ·have e1:(ee != 0)=true:=by rw[bne_iff_ne];exact he
  have e2:(ee == 0)=false:=by rw[beq_eq_false_iff_ne];exact he
  have HE:=hidI he
  clear he
  obtain⟨x0,x1,x2,x3,x4,y0,y1,y2,y3,y4⟩:=(K1.out.2.1).c
  have Z:=hidI (bel_set5 K1.out.2.2.1 (Nat.le_succ w.heap.size) (.int .i64 0) (.int .i64 0) (.string ⟨#[]⟩) (.slice none 0 0) (.slice none 0 0))
  have ZB:=hidI ((K1.out.2.1).set (.int .i64 0) (.int .i64 0) (.string ⟨#[]⟩) (.slice none 0 0) (.slice none 0 0))
  have HA:Hid (getR (splitP p) t=(zeroT,ee)):=hidI (by rw[SP.out];unfold getR;rw[if_pos HE.out])
  clear K1
  go_wp2_with fail
  obtain⟨z0,z1,z2,z3,z4,-⟩:=ZB.out.c
  refine bodyPost_ret (v:=.tuple #[.agg #[.int .i64 0,.int .i64 0,.string ⟨#[]⟩,.slice none 0 0,.slice none 0 0],.int .i64 ee]) ?_ rfl ?_
  ·simp only[set5]at z0 z1 z2 z3 z4
   simp[results,Tryz.results14,go_sem,z0,z1,z2,z3,z4]
  ·refine⟨_,by rw[HA.out],Z.out,?_⟩
   rw[HA.out]
   exact in_zero _ _
end Go.Proofs.YtmdemcjmcnfjmaaGreatDoor
