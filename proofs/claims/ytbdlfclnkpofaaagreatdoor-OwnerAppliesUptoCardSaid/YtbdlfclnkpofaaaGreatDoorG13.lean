import Derived.Test.YtbdlfclnkpofaaaGreatDoorG11
set_option maxRecDepth 100000
set_option maxHeartbeats 40000000
set_option linter.unusedSimpArgs false
set_option linter.unusedVariables false
namespace Go.Proofs.YtbdlfclnkpofaaaGreatDoor
open Go.RowKit
open _root_.Go.Proofs.Tryz
theorem Gc(f):zo f:=DC ut f
def iC (l:Lz):Option V:=(cH (l.length+1) l).bind fun p=>if p.2.dropWhile cw=[]/\aE p.1=true then some p.1 else none
def cW (l:Lz):V × Int:=if 2000 < l.length then (bC 0 0 [],2) else match iC l with | some t=>(t,0) | none=>(bC 0 0 [],1)
theorem FJ(w:LC)(l)(hl:l.length<=maxLen)(hG:cn w):Calls prog 41 #[aR l] w fun e w'=>∃ (t:V) (ee:Int) (a7 a8:Option Addr) (c7 c8:Nat),e=.returned (.tuple #[(.agg #[.int .i64 t.kind,.int .i64 t.n,.string ⟨t.s.toArray⟩,.slice a7 t.keys.length c7,.slice a8 t.l.length c8]),.int .i64 ee])/\cW l=(t,ee)/\bu w' (fun k=>w.heap.size<=k) 2003 t (.agg #[.int .i64 t.kind,.int .i64 t.n,.string ⟨t.s.toArray⟩,.slice a7 t.keys.length c7,.slice a8 t.l.length c8])/\La w w':=by
 unfold maxLen at hl;unfold aR;have HG:=aa hG;clear hG;by_cases h2:2000 < l.length
 ·have e0:2000 < (l.length:Int):=by omega
  have PS:Ll (cW l=(bC 0 0 [],2)):=aa (by simp[cW,h2]);go_enter func41,ntmps41;go_wp2_with fail
  refine MM (v:=.tuple #[cz 0 0 [],.int .i64 2]) (by simp[results,results41,go_sem,cz,aR]) rfl ?_;exact⟨bC 0 0 [],2,none,none,0,0,rfl,PS.o,fd _ _ 2002 _ _ _ (by unfold dW;omega) (by unfold dW;omega) (by simp),ae _ _⟩
 ·have e0:¬(2000 < (l.length:Int)):=by omega
  have PS0:Ll (cW l=match iC l with | some t=>(t,0) | none=>(bC 0 0 [],1)):=aa (by simp only[cW,if_neg h2]);go_enter func41,ntmps41;go_wp2_with fail
  have hrd:Ll (bf ((w.alloc fi).alloc (.cells #[.string ⟨l.toArray⟩,.int .i64 0,.bool false] 93)) (w.heap.size+1) ⟨l.toArray⟩ (some l)):=⟨0,⟨et w _ _,Nat.zero_le _,by simp[ByteArray.size];omega⟩,by simp⟩
  have hG2:Ll (cn ((w.alloc fi).alloc (.cells #[.string ⟨l.toArray⟩,.int .i64 0,.bool false] 93))):=HG.o.grown (bd (bd (az w none) _) _) (by simp);have L9:4<=w.heap.size+1:=by have:=HG.o.size;omega
  refine(Gc (l.length+1) _ (w.heap.size+1) ⟨l.toArray⟩ (some l) (by exact hrd.o) (by exact hG2.o) L9 (by simp)).mono ?_;rintro e w3 ⟨t,st3,a7,a8,c7,c8,rfl,hv3,hst3,hr3,hg3⟩;have K3:Ll (bu w3 (fun k=>w.heap.size+2<=k) (l.length+1) t (.agg #[.int .i64 t.kind,.int .i64 t.n,.string ⟨t.s.toArray⟩,.slice a7 t.keys.length c7,.slice a8 t.l.length c8])/\(some l).bind (cH (l.length+1))=st3.map (fun l=>(t,l))/\bf w3 (w.heap.size+1) ⟨l.toArray⟩ st3/\ag w3 w.heap.size (.int .i64 0) (.int .i64 0) (.string ⟨#[]⟩) (.slice none 0 0) (.slice none 0 0)/\w.grownBy w3 none):=
   ⟨by simpa using hv3,hst3,hr3,ag.grown (fb w _ _) hg3 (by simp),lC (bd (bd (az w none) _) _) hg3 (by omega)⟩
  have hsz3:w.heap.size+1 < w3.heap.size:=hr3.lt;clear hv3 hst3 hr3 hg3;go_wp2_with fail
  refine(rV _ (w.heap.size+1) ⟨l.toArray⟩ st3 (by exact K3.o.2.2.1.grown (World.grownBy_alloc w3 _ none) (by simp))).mono ?_;rintro e w4 ⟨rfl,hr4,hg4⟩;have K4:Ll (bf w4 (w.heap.size+1) ⟨l.toArray⟩ (st3.map (List.dropWhile cw))/\ag w4 w.heap.size (.int .i64 0) (.int .i64 0) (.string ⟨#[]⟩) (.slice none 0 0) (.slice none 0 0)/\ag w4 w3.heap.size (.int .i64 t.kind) (.int .i64 t.n) (.string ⟨t.s.toArray⟩) (.slice a7 t.keys.length c7) (.slice a8 t.l.length c8)/\bu w4 (fun k=>w.heap.size+2<=k) (l.length+1) t (.agg #[.int .i64 t.kind,.int .i64 t.n,.string ⟨t.s.toArray⟩,.slice a7 t.keys.length c7,.slice a8 t.l.length c8])/\w.grownBy w4 none):=
   ⟨hr4,(K3.o.2.2.2.1.grown (World.grownBy_alloc w3 _ none) (by simp)).grown hg4 (by simp),ag.grown (MN w3 _) hg4 (by simp;omega),(K3.o.1.grown (World.grownBy_alloc w3 _ none) (by simp)).grown hg4 (fun k hk e=>by simp at e;omega),lC (bd K3.o.2.2.2.2 _) hg4 (by omega)⟩
  clear hr4 hg4;have hval:cH (l.length+1) l=st3.map (fun l=>(t,l)):=K3.o.2.1;match st3,K3,K4,hval with
  | none,K3,K4,hval=>
   have PS:Ll (cW l=(bC 0 0 [],1)):=aa (by
    have:iC l=none:=by unfold iC;rw[hval];rfl
    rw[PS0.o,this])
   obtain⟨-,-,c2,-,-⟩:=(eA.nil K4.o.1).c;have EN:Ll (ag w4 w.heap.size (.int .i64 0) (.int .i64 0) (.string ⟨#[]⟩) (.slice none 0 0) (.slice none 0 0)/\w.grownBy w4 none):=⟨K4.o.2.1,K4.o.2.2.2.2⟩
   clear hval;have x0_:=EN.o.1.c;obtain⟨z0,z1,z2,z3,z4,-⟩:=(EN.o.1.set (.int .i64 0) (.int .i64 0) (.string ⟨#[]⟩) (.slice none 0 0) (.slice none 0 0)).c;have Z:Ll (_/\_/\_/\_/\_):=⟨z0,z1,z2,z3,z4⟩
   go_wp2_with fail
   obtain⟨z0,z1,z2,z3,z4⟩:=Z.o;refine MM (v:=.tuple #[cz 0 0 [],.int .i64 1]) ?_ rfl ?_
   ·simp only[ar]at z0 z1 z2 z3 z4;simp[results,results41,go_sem,z0,z1,z2,z3,z4,cz,aR]
   ·exact⟨bC 0 0 [],1,none,none,0,0,rfl,PS.o,fd _ _ 2002 _ _ _ (by unfold dW;omega) (by unfold dW;omega) (by simp),bS (eD EN.o.2 (MG _) _ _ _ _ _)⟩
  | some r,K3,K4,hval=>
   obtain⟨i,hi,ei⟩:=K4.o.1;obtain⟨c0,c1,c2,-,-⟩:=hi.c;have hile:=hi.2.1;have hel:(ByteArray.mk l.toArray).size=l.length:=by simp[ByteArray.size]
   rw[hel]at hile;have EI:=aa ei;clear hi ei;cases hd:r.dropWhile cw with
   | cons x r2=>
    have hlt:(i:Int) < (l.length:Int):=by
     have h9:=EI.o;rw[show (some r).map (List.dropWhile cw)=some (r.dropWhile cw) from rfl,hd]at h9;have:=congrArg List.length h9;simp at this;omega
    have PS:Ll (cW l=(bC 0 0 [],1)):=aa (by
     have:iC l=none:=by unfold iC;rw[hval];simp[hd]
     rw[PS0.o,this])
    have EN:Ll (ag w4 w.heap.size (.int .i64 0) (.int .i64 0) (.string ⟨#[]⟩) (.slice none 0 0) (.slice none 0 0)/\w.grownBy w4 none):=⟨K4.o.2.1,K4.o.2.2.2.2⟩
    clear hval hd;have x0_:=EN.o.1.c;obtain⟨z0,z1,z2,z3,z4,-⟩:=(EN.o.1.set (.int .i64 0) (.int .i64 0) (.string ⟨#[]⟩) (.slice none 0 0) (.slice none 0 0)).c;have Z:Ll (_/\_/\_/\_/\_):=⟨z0,z1,z2,z3,z4⟩
    go_wp2_with fail
    obtain⟨z0,z1,z2,z3,z4⟩:=Z.o;refine MM (v:=.tuple #[cz 0 0 [],.int .i64 1]) ?_ rfl ?_
    ·simp only[ar]at z0 z1 z2 z3 z4;simp[results,results41,go_sem,z0,z1,z2,z3,z4,cz,aR]
    ·exact⟨bC 0 0 [],1,none,none,0,0,rfl,PS.o,fd _ _ 2002 _ _ _ (by unfold dW;omega) (by unfold dW;omega) (by simp),bS (eD EN.o.2 (MG _) _ _ _ _ _)⟩
   | nil=>
    have hge:¬((i:Int) < (l.length:Int)):=by
     have h9:=EI.o;rw[show (some r).map (List.dropWhile cw)=some (r.dropWhile cw) from rfl,hd]at h9;have:=congrArg List.length h9;simp at this;omega
    have p0_:=K4.o.2.2.1.c;cases hgd:aE t with
    | true=>
     have PS:Ll (cW l=(t,0)):=aa (by
      have:iC l=some t:=by unfold iC;rw[hval];simp[hd,hgd]
      rw[PS0.o,this])
     have HGD:=aa hgd;clear hval hd hgd;go_wp2_with fail
     refine Lk (mr _ _ _ t _ (by exact K4.o.2.2.2.1)) fun w5 hb5=>?_;rw[HGD.o];have K5:Ll (ag w5 w.heap.size (.int .i64 0) (.int .i64 0) (.string ⟨#[]⟩) (.slice none 0 0) (.slice none 0 0)/\ag w5 w3.heap.size (.int .i64 t.kind) (.int .i64 t.n) (.string ⟨t.s.toArray⟩) (.slice a7 t.keys.length c7) (.slice a8 t.l.length c8)/\bu w5 (fun k=>w.heap.size+2<=k) (l.length+1) t (.agg #[.int .i64 t.kind,.int .i64 t.n,.string ⟨t.s.toArray⟩,.slice a7 t.keys.length c7,.slice a8 t.l.length c8])/\w.grownBy w5 none):=⟨af hb5 K4.o.2.1,af hb5 K4.o.2.2.1,K4.o.2.2.2.1.bel hb5,am K4.o.2.2.2.2 (aq hb5)⟩
     clear hb5;have p0_:=K5.o.2.1.c;have x0_:=K5.o.1.c;obtain⟨z0,z1,z2,z3,z4,-⟩:=(K5.o.1.set (.int .i64 t.kind) (.int .i64 t.n) (.string ⟨t.s.toArray⟩) (.slice a7 t.keys.length c7) (.slice a8 t.l.length c8)).c;have Z:Ll (_/\_/\_/\_/\_):=⟨z0,z1,z2,z3,z4⟩
     go_wp2_with fail
     obtain⟨z0,z1,z2,z3,z4⟩:=Z.o;refine MM (v:=.tuple #[(.agg #[.int .i64 t.kind,.int .i64 t.n,.string ⟨t.s.toArray⟩,.slice a7 t.keys.length c7,.slice a8 t.l.length c8]),.int .i64 0]) ?_ rfl ?_
     ·simp only[ar]at z0 z1 z2 z3 z4;simp[results,results41,go_sem,z0,z1,z2,z3,z4]
     ·refine⟨t,0,a7,a8,c7,c8,rfl,PS.o,?_,bS (eD K5.o.2.2.2 (MG _) _ _ _ _ _)⟩;exact((K5.o.2.2.1.grown (aI w5 w.heap.size (.int .i64 t.kind) (.int .i64 t.n) (.string ⟨t.s.toArray⟩) (.slice a7 t.keys.length c7) (.slice a8 t.l.length c8)) (fun k hk e=>by simp at e;omega)).weak (fun k hk=>by omega)).le (by omega)
    | false=>
     have PS:Ll (cW l=(bC 0 0 [],1)):=aa (by
      have:iC l=none:=by unfold iC;rw[hval];simp[hgd]
      rw[PS0.o,this])
     have HGD:=aa hgd;clear hval hd hgd;go_wp2_with fail
     refine Lk (mr _ _ _ t _ (by exact K4.o.2.2.2.1)) fun w5 hb5=>?_;rw[HGD.o];have EN:Ll (ag w5 w.heap.size (.int .i64 0) (.int .i64 0) (.string ⟨#[]⟩) (.slice none 0 0) (.slice none 0 0)/\w.grownBy w5 none):=⟨af hb5 K4.o.2.1,am K4.o.2.2.2.2 (aq hb5)⟩
     clear hb5;have x0_:=EN.o.1.c;obtain⟨z0,z1,z2,z3,z4,-⟩:=(EN.o.1.set (.int .i64 0) (.int .i64 0) (.string ⟨#[]⟩) (.slice none 0 0) (.slice none 0 0)).c;have Z:Ll (_/\_/\_/\_/\_):=⟨z0,z1,z2,z3,z4⟩
     go_wp2_with fail
     obtain⟨z0,z1,z2,z3,z4⟩:=Z.o;refine MM (v:=.tuple #[cz 0 0 [],.int .i64 1]) ?_ rfl ?_
     ·simp only[ar]at z0 z1 z2 z3 z4;simp[results,results41,go_sem,z0,z1,z2,z3,z4,cz,aR]
     ·exact⟨bC 0 0 [],1,none,none,0,0,rfl,PS.o,fd _ _ 2002 _ _ _ (by unfold dW;omega) (by unfold dW;omega) (by simp),bS (eD EN.o.2 (MG _) _ _ _ _ _)⟩
end Go.Proofs.YtbdlfclnkpofaaaGreatDoor
