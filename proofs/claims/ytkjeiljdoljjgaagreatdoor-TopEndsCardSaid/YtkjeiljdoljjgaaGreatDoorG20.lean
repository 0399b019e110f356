import Derived.Test.YtkjeiljdoljjgaaGreatDoorG14
set_option maxRecDepth 100000
set_option maxHeartbeats 40000000
set_option linter.unusedSimpArgs false
set_option linter.unusedVariables false
namespace Go.Proofs.YtkjeiljdoljjgaaGreatDoor
open Go.RowKit
open _root_.Go.Proofs.Tryz
variable {n i c:Nat}
theorem vf(n i)(h:i < n):Nat.min 1 (n+1 - i)=1:=by simp only[Nat.min_def];split <;> omega
theorem yF{cur:List Value}{cells two:List Value}(hs:cur.length=c * 15)(hx:cur.take (n * 15)=cells)(hl:cells.length=n * 15)(h2:two.length=15)(hi:i < n)(hroom:n+1<=c):let a1:=cur.take ((i+1) * 15)++cells.drop (i * 15)++cur.drop ((i+1) * 15+(cells.drop (i * 15)).length)
 let a2:=a1.take (i * 15)++two++a1.drop (i * 15+two.length)
 a1.length=c * 15/\a2.length=c * 15/\a2.take ((n+1) * 15)=cells.take (i * 15)++two++cells.drop (i * 15):=by
 intro a1 a2;have e1:(cur.take ((i+1) * 15)).length=(i+1) * 15:=by rw[MC];omega
 have e2:(cells.drop (i * 15)).length=n * 15 - i * 15:=by rw[MB,hl]
 have l1:a1.length=c * 15:=by simp only[a1,Mx,MB,e1,hs,hl];omega
 have t1:a1.take (i * 15)=cells.take (i * 15):=by
  simp only[a1];rw[List.append_assoc,List.take_append_of_le_length (by rw[e1];omega),List.take_take,<-hx,List.take_take,Nat.min_eq_left (by omega),Nat.min_eq_left (by omega)]
 have t2:a1.drop (i * 15+two.length)=cells.drop (i * 15)++cur.drop ((i+1) * 15+(cells.drop (i * 15)).length):=by
  simp only[a1];rw[h2,List.append_assoc,show i * 15+15=(cur.take ((i+1) * 15)).length by rw[e1];omega,List.drop_left]
 have l2:a2.length=c * 15:=by
  simp only[a2,t1,t2,Mx,MC,MB,hl,hs,h2];omega
 refine⟨l1,l2,?_⟩;simp only[a2,t1,t2];rw[<-List.append_assoc,List.take_append_of_le_length (by simp only[Mx,MC,MB,hl,h2];omega),MD (by simp only[Mx,MC,MB,hl,h2];omega)]
theorem tO(w B g n c i vb)(cur:Array Value)(cells one)(h15:one.length=15)(hone:∀ u∈one,u.oneCell'=true)(hi:i < n)(hroom:n+1<=c)(hc:c<=maxLen)(hBg:B<=g)(hg:w.heap[g]?=some (.cells cur 40 (0,0)))(hs:cur.size=c * 15)(hx:cur.toList.take (n * 15)=cells)(hl:cells.length=n * 15)(hv:w.heap[vb]?=some (.cells one.toArray 40))(hvb:vb≠g)(h1:∀ u∈cells,u.oneCell'=true):Calls prog 48 #[.slice (some ⟨g,0,none⟩) n c,.int .i64 i,.slice (some ⟨vb,0,none⟩) 1 1] w fun e w'=>e=.returned (.slice (some ⟨g,0,none⟩) (n+1) c)/\w'.ownsRow B 40 15 (.slice (some ⟨g,0,none⟩) (n+1) c) (n+1) (cells.take (i * 15)++one++cells.drop (i * 15))/\w.grownBy w' (some g):=by
 have hov:=fun off lb cb=>ti w vb g off lb cb _ _ 15 (c * 15) hvb (by simp[World.shape?,hv,h15];rfl) (by simp[World.shape?,hg,hs];rfl) (by omega) (by simp[World.frozen?,hv]) (by simp[World.frozen?,hv]);obtain⟨l1,l2,l3⟩:=yF (cur:=cur.toList) (two:=one) (by simpa using hs) hx hl h15 hi hroom;have hcp1:∀ ty dc sc,(Builtin.copy_ #[26,26] ty #[.slice (some ⟨g,(i+1) * 15,none⟩) (n - i) dc,.slice (some ⟨g,i * 15,none⟩) (n+1 - i) sc]).run prog w.drew=.ok (goInt (Nat.min (n+1 - i) (n - i))) (w.drew.setRow g (cur.toList.take ((i+1) * 15)++cells.drop (i * 15)++cur.toList.drop ((i+1) * 15+(cells.drop (i * 15)).length)).toArray):=fun ty dc sc=>
  kE w.drew ty g ((i+1) * 15) (n - i) dc ⟨g,i * 15,none⟩ (n+1 - i) sc cur _ (cells.drop (i * 15)) hg (by rw[MB,hl];simp only[Nat.min_def];split <;> omega)
   (fun j v hj=>by
    rw[List.getElem?_drop,<-hx,List.getElem?_take]at hj;split at hj
    ·rw[Addr.add_lit];simp only[World.cell?,show w.drew.heap=w.heap from rfl,hg];simpa using hj
    ·cases hj)
   (by rw[MB,hl];omega) (fun v hv=>h1 v (List.mem_of_mem_drop hv))
 obtain⟨A1,hA1⟩:∃ A1,A1=(cur.toList.take ((i+1) * 15)++cells.drop (i * 15)++cur.toList.drop ((i+1) * 15+(cells.drop (i * 15)).length)):=⟨_,rfl⟩
 rw[h15]at l2 l3;rw[<-hA1]at hcp1 l1 l2 l3;have hgW:(w.drew.setRow g A1.toArray).heap[g]?=some (.cells A1.toArray 40 (0,0)):=setRow_heap w.drew g cur _ _ _ hg;have hvW:(w.drew.setRow g A1.toArray).heap[vb]?=some (.cells one.toArray 40):=(setRow_other w.drew g vb _ hvb).trans hv;have hcp2:∀ (W:LC),(∀ k,W.heap[k]?=(w.drew.setRow g A1.toArray).heap[k]?)->∀ ty dc,(Builtin.copy_ #[26,26] ty #[.slice (some ⟨g,i * 15,none⟩) (n+1 - i) dc,.slice (some ⟨vb,0,none⟩) 1 1]).run prog W=.ok (goInt (Nat.min 1 (n+1 - i))) (W.setRow g (A1.take (i * 15)++one++A1.drop (i * 15+15)).toArray):=fun W hW ty dc=>by
  have h9:=kE W ty g (i * 15) (n+1 - i) dc ⟨vb,0,none⟩ 1 1 A1.toArray _ one ((hW g).trans hgW) (by rw[vf n i hi,h15])
   (fun j v hj=>by
    rw[Addr.add_lit];simp only[World.cell?,hW,hvW];simpa using hj)
   (by simp only[List.size_toArray,l1,h15];omega) hone
  rw[h15]at h9;exact h9
 have HF:Ll (∀ W:LC,W=(w.drew.setRow g A1.toArray).drew.setRow g (A1.take (i * 15)++one++A1.drop (i * 15+15)).toArray\/W=(w.drew.setRow g A1.toArray).setRow g (A1.take (i * 15)++one++A1.drop (i * 15+15)).toArray->W.ownsRow B 40 15 (.slice (some ⟨g,0,none⟩) (n+1) c) (n+1) (cells.take (i * 15)++one++cells.drop (i * 15))/\w.grownBy W (some g)):=aa (by
  intro W hW;have e0:W.heap[g]?=some (.cells (A1.take (i * 15)++one++A1.drop (i * 15+15)).toArray 40 (0,0)):=by
   rcases hW with rfl | rfl
   ·exact setRow_heap _ g _ _ _ _ hgW
   ·exact setRow_heap _ g _ _ _ _ hgW
  refine⟨⟨?_,.inr ⟨g,c,_,rfl,hBg,e0,hroom,hc,by simpa using l2,by simpa using l3⟩⟩,?_⟩
  ·simp only[Mx,MC,MB,hl,h15];omega
  ·rcases hW with rfl | rfl <;> refine⟨rfl,rfl,rfl,by simp[World.setRow],fun k hk hne=>?_⟩
   ·have:k≠g:=fun e=>hne (by rw[e]);exact(setRow_other _ g k _ this).trans (setRow_other w.drew g k _ this)
   ·have:k≠g:=fun e=>hne (by rw[e]);exact(setRow_other _ g k _ this).trans (setRow_other w.drew g k _ this))
 have q0:((i:Int) == (n:Int))=false:=by rw[MO];omega
 have q1:(0:Int)<=(i:Int):=by omega
 have q2:(i:Int)<=(n:Int):=by omega
 have q3:¬(c:Int) < (n:Int)+1:=by omega
 have q4:(n:Int)+1<=(c:Int):=by omega
 have q5:(0:Int)<=(n:Int)+1:=by omega
 have q6:(i:Int)+1<=(n:Int)+1:=by omega
 have q7:(0:Int)<=(i:Int)+1:=by omega
 unfold maxLen at hc;have hcl:(c:Int)<=9223372036854775807:=by omega
 have hw1:IntKind.i64.wrap ((i:Int)+1)=(i:Int)+1:=by rw[IntKind.wrap_i64];omega
 have htn:((i:Int)+1).toNat=i+1:=by omega
 have q8:(i:Int)<=(n:Int)+1:=by omega
 have hc1:=hcp1 3 (c - (i+1)) (c - i);have hc2:=hcp2 (w.drew.setRow g A1.toArray) (fun _=>rfl) 3 (c - i);have z1:¬(c=i):=by omega
 have z2:¬(c=i+1):=by omega
 clear hcp1 hcp2 hgW hvW l1 l2 l3 hA1 hx hl h1 hv hg hs;go_enter func48,ntmps48;go_wp2_with (simp only[hov])
 go_region
 go_wp2_with (simp only[hc2])
 go_ret;exact⟨rfl,HF.o _ (.inr (by simp))⟩
theorem zf{R cells two Z:List Value}{G:Nat}(hR:R=cells.take (i * 15)++Z)(hZ:Z.length=(G - i) * 15)(hl:cells.length=n * 15)(h2:two.length=15)(hi:i < n)(hG:n+1<=G):let a1:=R.take (i * 15)++two++R.drop (i * 15+two.length)
 let a2:=a1.take ((i+1) * 15)++cells.drop (i * 15)++a1.drop ((i+1) * 15+(cells.drop (i * 15)).length)
 R.length=G * 15/\a1.length=G * 15/\a2.length=G * 15/\a2.take ((n+1) * 15)=cells.take (i * 15)++two++cells.drop (i * 15):=by
 intro a1 a2;have e1:(cells.take (i * 15)).length=i * 15:=by rw[MC];omega
 have l0:R.length=G * 15:=by rw[hR,Mx,e1,hZ];omega
 have t1:R.take (i * 15)=cells.take (i * 15):=by rw[hR,List.take_append_of_le_length (by omega),MD (by omega)]
 have l1:a1.length=G * 15:=by simp only[a1,t1,Mx,MB,e1,l0,h2];omega
 have t2:a1.take ((i+1) * 15)=cells.take (i * 15)++two:=by
  simp only[a1,t1];rw[List.take_append_of_le_length (by rw[Mx];omega),MD (by rw[Mx];omega)]
 have l2:a2.length=G * 15:=by simp only[a2,t2,Mx,MB,e1,h2,l1,hl];omega
 refine⟨l0,l1,l2,?_⟩;simp only[a2,t2];rw[List.take_append_of_le_length (by simp only[Mx,MB,e1,hl,h2];omega),MD (by simp only[Mx,MB,e1,hl,h2];omega)]
theorem ts(w B g n c i vb)(cur:Array Value)(cells one)(h15:one.length=15)(hone:∀ u∈one,u.oneCell'=true)(hi:i < n)(hnc:n<=c)(hroom:c < n+1)(hn:n<=4000000)(hB:B<=w.heap.size)(hg:w.heap[g]?=some (.cells cur 40 (0,0)))(hx:cur.toList.take (n * 15)=cells)(hl:cells.length=n * 15)(hv:w.heap[vb]?=some (.cells one.toArray 40))(h1:∀ u∈cells,u.oneCell'=true):Calls prog 48 #[.slice (some ⟨g,0,none⟩) n c,.int .i64 i,.slice (some ⟨vb,0,none⟩) 1 1] w fun e w'=>∃ G,e=.returned (.slice (some ⟨w.heap.size,0,none⟩) (n+1) G)/\w'.ownsRow B 40 15 (.slice (some ⟨w.heap.size,0,none⟩) (n+1) G) (n+1) (cells.take (i * 15)++one++cells.drop (i * 15))/\w.grownBy w' none:=by
 obtain⟨i0,hi0,hz0,hz1,hz2⟩:=info_parts qF;have hgl:=(MF.1 hg).1;have hvl:=(MF.1 hv).1;have LV:∀ j v,cells[j]?=some v->w.cell? ⟨g,j,none⟩=some v:=fun j v hj=>by
  rw[<-hx,List.getElem?_take]at hj;split at hj
  ·simp only[World.cell?,hg];simpa using hj
  ·cases hj
 have hold:(Builtin.firstCells i0.size i (.slice (some ⟨g,0,none⟩) i c)).run prog w.drew=.ok (cells.take (i * 15)).toArray w.drew:=by
  rw[hz1];exact run_firstCells_some w.drew 15 i ⟨g,0,none⟩ i c (cells.take (i * 15)) (by rw[MC];omega) (fun j v hj=>by
   rw[Addr.add_lit,Nat.zero_add];rw[List.getElem?_take]at hj;split at hj
   ·exact LV j v hj
   ·cases hj)
 have hik:i+(n+1 - i)=n+1:=by omega
 have hkk:(n:Int)+1 - (i:Int)=((n+1 - i:Nat):Int):=by omega
 have hrz:=Lib.run_append_grow_zeros w 26 3 26 40 i0 _ .i64 .i64 underlying26 underlying3 hi0 hz0 (some ⟨g,0,none⟩) i c (cells.take (i * 15)) hold (n+1 - i) (by omega) (by omega) (by omega) (by omega) (by rw[hz2];omega) (by rw[hz2,hik];exact growslice_fits hroom (by omega));rw[hik,<-hkk]at hrz;have hGn:=grownCap_ge w (n+1) c 40;have hGm:=grownCap_le_maxLen w (n+1) c 40 (by unfold maxLen;omega);obtain⟨G,hG⟩:∃ G,G=grownCap w (n+1) c 40:=⟨_,rfl⟩
 rw[<-hG]at hrz hGn hGm;obtain⟨Z,hZ,hZl⟩:∃ Z:List Value,(Builtin.zeroCells (Value.agg Le).cells (n+1 - i)).toList++(Builtin.zeroCells (Value.agg Le).cells (G - (n+1))).toList=Z/\Z.length=(G - i) * 15:=⟨_,rfl,by
  simp only[Mx,Array.length_toList,size_zeroCells];have:(Value.agg Le).cells.size=15:=by rfl
  rw[this];omega⟩
 obtain⟨R,hR⟩:∃ R:List Value,R=cells.take (i * 15)++Z:=⟨_,rfl⟩
 obtain⟨l0,l1,l2,l3⟩:=zf (two:=one) hR hZl hl h15 hi hGn;have hRR:(cells.take (i * 15)).toArray++Builtin.zeroCells (Value.agg Le).cells (n+1 - i)++Builtin.zeroCells (Value.agg Le).cells (G - (n+1))=R.toArray:=by
  apply Array.toList_inj.1;rw[hR,<-hZ];simp
 rw[hRR]at hrz;obtain⟨A1,hA1⟩:∃ A1,A1=R.take (i * 15)++one++R.drop (i * 15+15):=⟨_,rfl⟩
 have e2:=h15;rw[e2,<-hA1]at l1 l2 l3;have hgW:∀ k,k < w.heap.size->(w.drew.alloc (.cells R.toArray 40)).heap[k]?=w.heap[k]?:=fun k hk=>heap_alloc_old w.drew _ hk;have hnW:(w.drew.alloc (.cells R.toArray 40)).heap[w.heap.size]?=some (.cells R.toArray 40 (0,0)):=MN w.drew _;have hcpA:∀ (W:LC),(∀ k,W.heap[k]?=(w.drew.alloc (.cells R.toArray 40)).heap[k]?)->∀ ty dc,(Builtin.copy_ #[26,26] ty #[.slice (some ⟨w.heap.size,i * 15,none⟩) (n+1 - i) dc,.slice (some ⟨vb,0,none⟩) 1 1]).run prog W=.ok (goInt (Nat.min 1 (n+1 - i))) (W.setRow w.heap.size A1.toArray):=fun W hW ty dc=>by
  rw[hA1];have h9:=kE W ty w.heap.size (i * 15) (n+1 - i) dc ⟨vb,0,none⟩ 1 1 R.toArray _ one ((hW _).trans hnW) (by rw[vf n i hi,h15])
   (fun j v hj=>by
    rw[Addr.add_lit];simp only[World.cell?,hW,hgW vb hvl,hv];simpa using hj)
   (by simp only[List.size_toArray,l0,h15];omega) hone
  rw[h15]at h9;exact h9
 have hcpB:∀ (W W0:LC),(∀ k,W0.heap[k]?=(w.drew.alloc (.cells R.toArray 40)).heap[k]?)->(∀ k,W.heap[k]?=(W0.setRow w.heap.size A1.toArray).heap[k]?)->∀ ty dc sc,(Builtin.copy_ #[26,26] ty #[.slice (some ⟨w.heap.size,(i+1) * 15,none⟩) (n - i) dc,.slice (some ⟨g,i * 15,none⟩) (n - i) sc]).run prog W=.ok (goInt (Nat.min (n - i) (n - i))) (W.setRow w.heap.size (A1.take ((i+1) * 15)++cells.drop (i * 15)++A1.drop ((i+1) * 15+(cells.drop (i * 15)).length)).toArray):=fun W W0 hW0 hW ty dc sc=>
  kE W ty w.heap.size ((i+1) * 15) (n - i) dc ⟨g,i * 15,none⟩ (n - i) sc A1.toArray _ (cells.drop (i * 15)) ((hW _).trans (setRow_heap W0 _ R.toArray _ _ _ ((hW0 _).trans hnW))) (by rw[MB,hl];simp only[Nat.min_def];split <;> omega)
   (fun j v hj=>by
    rw[List.getElem?_drop]at hj;have:=LV _ v hj;rw[Addr.add_lit];simp only[World.cell?]at this ⊢;rw[hW,setRow_other W0 w.heap.size g _ (Nat.ne_of_lt hgl),hW0,hgW g hgl];exact this)
   (by simp only[MB,hl,List.size_toArray,l1];omega) (fun v hv=>h1 v (List.mem_of_mem_drop hv))
 have HF:Ll (∀ (W W0 W1:LC),(∀ k,W0.heap[k]?=(w.drew.alloc (.cells R.toArray 40)).heap[k]?)->(∀ k,W1.heap[k]?=(W0.setRow w.heap.size A1.toArray).heap[k]?)->W=W1.setRow w.heap.size (A1.take ((i+1) * 15)++cells.drop (i * 15)++A1.drop ((i+1) * 15+(cells.drop (i * 15)).length)).toArray->w.os=W.os->w.tape=W.tape->w.output=W.output->w.heap.size<=W.heap.size->W.ownsRow B 40 15 (.slice (some ⟨w.heap.size,0,none⟩) (n+1) G) (n+1) (cells.take (i * 15)++one++cells.drop (i * 15))/\w.grownBy W none):=aa (by
  intro W W0 W1 hW0 hW1 hW g1 g2 g3 g4;have e1:=(hW1 w.heap.size).trans (setRow_heap W0 w.heap.size R.toArray A1.toArray _ _ ((hW0 _).trans hnW));have e0:=setRow_heap W1 w.heap.size A1.toArray (A1.take ((i+1) * 15)++cells.drop (i * 15)++A1.drop ((i+1) * 15+(cells.drop (i * 15)).length)).toArray _ _ e1;rw[<-hW]at e0;refine⟨⟨?_,.inr ⟨w.heap.size,G,_,rfl,hB,e0,hGn,hGm,by simpa using l2,by simpa using l3⟩⟩,⟨g1.symm,g2.symm,g3.symm,g4,fun k hk _=>?_⟩⟩
  ·simp only[Mx,MC,MB,hl,h15];omega
  ·have:k≠w.heap.size:=by omega
   rw[hW,setRow_other W1 _ k _ this,hW1,setRow_other W0 _ k _ this,hW0,hgW k hk])
 unfold maxLen at hGm;have HA:=aa hcpA;have HB2:=aa hcpB;have q0:((i:Int) == (n:Int))=false:=by rw[MO];omega
 have q1:(0:Int)<=(i:Int):=by omega
 have q2:(i:Int)<=(n:Int):=by omega
 have q3:(c:Int) < (n:Int)+1:=by omega
 have q8:(i:Int)<=(c:Int):=by omega
 have hw1:IntKind.i64.wrap ((i:Int)+1)=(i:Int)+1:=by rw[IntKind.wrap_i64];omega
 have hw2:IntKind.i64.wrap ((n:Int)+1 - (i:Int))=(n:Int)+1 - (i:Int):=by rw[IntKind.wrap_i64];omega
 have htn:((i:Int)+1).toNat=i+1:=by omega
 have q6:(i:Int)+1<=(n:Int)+1:=by omega
 have q7:(0:Int)<=(i:Int)+1:=by omega
 have q9:(i:Int)<=(n:Int)+1:=by omega
 have hGi:¬(G=i):=by omega
 have hGim:¬(G=i+1):=by omega
 have hci:¬(c=i):=by omega
 have hcl:(c:Int)<=9223372036854775807:=by omega
 have hrz2:=aa hrz;clear hcpA hcpB hA1 hR hRR hZ hZl l0 l1 l2 l3 e2 hgW hnW hx hl h1 hg hv hold hik hkk hz0 hz1 hz2 hi0 LV hrz hG;go_enter func48,ntmps48;go_wp2_with (at_builtin;refine Lib.wpList_append_run _ rfl _ _ _ _ rfl (.slice (some ⟨g,0,none⟩) i c) (.int .i64 ((n:Int)+1 - (i:Int))) rfl rfl _ _ hrz2.o ?_)
 have hA:=HA.o ((w.alloc (.cells R.toArray 40)).drew) (fun _=>rfl) 3 (G - i);go_wp2_with (simp only[hA])
 have hB9:=HB2.o (((w.alloc (.cells R.toArray 40)).drew.setRow w.heap.size A1.toArray).drew) _ (fun _=>rfl) (fun _=>rfl) 3 (G - (i+1)) (c - i);go_region
 go_wp2_with fail
 go_ret;exact⟨G,rfl,HF.o _ ((w.alloc (.cells R.toArray 40)).drew) (((w.alloc (.cells R.toArray 40)).drew.setRow w.heap.size A1.toArray).drew) (fun _=>rfl) (fun _=>rfl) (by simp) rfl rfl rfl (by simp[World.setRow])⟩
end Go.Proofs.YtkjeiljdoljjgaaGreatDoor
