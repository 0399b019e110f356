/- Whatever it is handed, TopEnds answers true and leaves all as it was. Its conditions: a text or a list takes at most 2^47 - 4096 bytes; the listed package-level variables hold what the program's text lays (the card ties them, over a pruned copy of the project). -/
import Derived.Test.YtkjeiljdoljjgaaGreatDoorG30
import Derived.Test.YtkjeiljdoljjgaaGreatDoorG31
set_option maxRecDepth 100000
set_option maxHeartbeats 40000000
set_option linter.unusedSimpArgs false
set_option linter.unusedVariables false
namespace Go.Proofs.YtkjeiljdoljjgaaGreatDoor
open Go.RowKit
open _root_.Go.Proofs.Tryz
theorem JH(w):Calls prog 17 #[] w fun e w'=>e=.returned (.pointer (some ⟨w.heap.size,0,none⟩))/\bo w' (fun _=>False) w.heap.size (.slice none 0 0) vm/\La w w':=by
 obtain⟨W1,hW1⟩:∃ W,W=w.alloc (.cells #[.slice none 0 0,.int .i64 0,.int .i64 0,.int .i64 0] 58):=⟨_,rfl⟩
 have Y1:Ll (La w W1):=aa (by rw[hW1];exact ae _ _);have S1:Ll (bo W1 (fun _=>False) w.heap.size (.slice none 0 0) vm):=aa ⟨by rw[hW1];exact MN _ _,⟨[],rfl,World.ownsRow_nil _ _ _ _,fun i t cs ht=>by simp[vm]at ht⟩,fun _ hk=>hk.elim⟩;have HW1:=aa hW1;clear hW1;go_enter func17,ntmps17;go_wp2_with fail
 rw[<-HW1.o];go_ret;exact⟨rfl,S1.o,Y1.o⟩
def zu:cm:=⟨1,[97],[],[123,34,105,109,97,103,101,34,58,34,120,34,125],0,0,0,false⟩
def yB:cm:=⟨3,[97],[],[123,34,105,109,97,103,101,34,58,34,121,34,44,34,115,116,101,112,115,34,58,91,49,48,44,123,34,112,97,117,115,101,34,58,48,125,93,125],0,0,0,false⟩
def Fo:cm:=⟨7,[97],[],[],0,0,2,false⟩
def xE:V:=⟨5,0,[],[[105,109,97,103,101]],[⟨3,0,[120],[],[]⟩]⟩
def tG:V:=⟨5,0,[],[[105,109,97,103,101],[115,116,101,112,115]],[⟨3,0,[121],[],[]⟩,⟨4,0,[],[],[⟨2,10,[],[],[]⟩,⟨5,0,[],[[112,97,117,115,101]],[⟨2,0,[],[],[]⟩]⟩]⟩]⟩
theorem JC:cW zu.body=(xE,0):=by kernel_rfl
theorem Ju:cW yB.body=(tG,0):=by kernel_rfl
theorem IZ:eY xE=some ([120],[]):=by kernel_rfl
theorem Ed:eY tG=some ([121],[⟨10,0⟩,⟨-1,0⟩]):=by kernel_rfl
theorem Hf:ge xE tG=(tG,0):=by kernel_rfl
def Ie:dI:=(ij [120] [] (fV [120] []).1 0 0).1
def Kc:dI:=(ij [121] [⟨10,0⟩,⟨-1,0⟩] Ie 0 0).1
def EW:Th:=⟨[97],xE,[],1,1,Ie⟩
def zK:Th:=⟨[97],tG,[],2,2,Kc⟩
theorem vn(v):ir v []=[]:=by
 unfold ir;split
 ·rfl
 ·rfl
theorem J9:al 0 0 (eT [97]) zu=(EW,1,0):=by
 have hw:aJ (eT [97]) zu=(xE,[],0):=by
  unfold aJ;rw[JC,if_neg (by simp),if_neg (by decide)];have hc:bW (eT [97]).value zu.kind xE=(xE,0):=by
   unfold bW;rw[if_neg (by decide),if_neg (by decide)]
  simp only[hc];rw[if_neg (by simp),show (eT [97]).owners=[] from rfl,vn]
 unfold al;rw[hw];simp only;rw[if_neg (by simp),if_neg (by unfold cI;rw[IZ];simp)];exact Kb (im:=[120]) (sps:=[]) (fs:=(fV [120] []).1) (fe:=(fV [120] []).2) (ns:=Ie) (ne:=(ij [120] [] (fV [120] []).1 0 0).2) (by unfold bE;rw[IZ];rfl) rfl rfl rfl
theorem KM:je vm zu=(⟨[EW],0,1,1⟩,⟨0,1,[]⟩):=by
 unfold je;rw[if_neg (by decide)];simp only;rw[if_neg (by decide),if_neg (by decide),if_neg (by decide),nQ (by decide) rfl];unfold iF;show (if (al 0 0 (eT [97]) zu).2.2≠0 then _ else _)=_;rw[J9];rfl
theorem Ki:al 0 1 EW yB=(zK,2,0):=by
 have hw:aJ EW yB=(tG,[],0):=by
  unfold aJ;rw[Ju,if_neg (by simp),if_neg (by decide)];have hc:bW EW.value yB.kind tG=(tG,0):=by
   unfold bW;rw[if_pos (by decide)];exact Hf
  simp only[hc];rw[if_neg (by simp),show EW.owners=[] from rfl,vn]
 unfold al;rw[hw];simp only;rw[if_neg (by simp),if_neg (by unfold cI;rw[Ed];simp)];exact JZ (t:=EW) (im:=[121]) (sps:=[⟨10,0⟩,⟨-1,0⟩]) (ns:=Kc) (ne:=(ij [121] [⟨10,0⟩,⟨-1,0⟩] Ie 0 0).2) (by unfold bE;rw[Ed];rfl) (by decide) (fun e=>by have:=congrArg (fun v:V=>v.keys.length) e;revert this;decide) rfl
theorem KS:je ⟨[EW],0,1,1⟩ yB=(⟨[zK],0,2,2⟩,⟨0,2,[]⟩):=by
 unfold je;rw[if_neg (by decide)];simp only;rw[if_neg (by decide),if_neg (by decide),if_neg (by decide),fk (t:=EW) (by decide) rfl rfl,if_neg (by decide),if_neg (by decide),if_neg (by decide)];unfold fF;rw[if_neg (by decide)];show (if (al 0 1 EW yB).2.2≠0 then _ else _)=_;rw[Ki];rfl
theorem KU:(je ⟨[zK],0,2,2⟩ Fo).2.n=1/\(je ⟨[zK],0,2,2⟩ Fo).1.ths.length=1:=by
 have h:je ⟨[zK],0,2,2⟩ Fo=iG ⟨[zK],0,2,3⟩ 0 zK 2:=by
  unfold je;rw[if_neg (by decide)];simp only;rw[if_neg (by decide),if_neg (by decide),if_neg (by decide),fk (t:=zK) (by decide) rfl rfl,if_neg (by decide),if_pos (by decide)];rfl
 rw[h];have hn:(dA 0 zK 2).2=0/\(dA 0 zK 2).1.ph=1:=by
  unfold dA;rw[show bE zK.value=([121],[⟨10,0⟩,⟨-1,0⟩]) by unfold bE;rw[show zK.value=tG from rfl,Ed];rfl];exact⟨by kernel_rfl,by kernel_rfl⟩
 unfold iG;rw[show (⟨[zK],0,2,3⟩:ex).time=0 from rfl,if_neg (by rw[hn.1];simp)];exact⟨hn.2,rfl⟩
variable {w w':World}
variable {v:Value}
variable {g S:Nat}
theorem Ik{a}(h:La a w)(f:kS w w' S v)(hS:a.heap.size<=S)(hv:∀ k,v.ownBlock=some k->a.heap.size<=k):La a w':=
 ⟨f.os.trans h.os,f.tape.trans h.tape,f.output.trans h.output,MH h.size f.size,fun k hk=>(f.block k (MI hk h.size) (by omega) (fun e=>by have:=hv k e;omega)).trans (h.block k hk)⟩
theorem Jq(h1:cn w)(h2:bj w)(h3:di w):Gl w w.heap.size:=by
 obtain⟨m,hm⟩:=h2;obtain⟨t,f,hw⟩:=h3;exact⟨h1,⟨m,hm⟩,⟨t,f,hw⟩,h1.size,World.block_lt_of_cell? w _ hm,(MF.1 hw).1⟩
structure iH (a w:LC) (S:Nat) (v:Value) (st:ex):Prop where
 bel:La a w
 srv:bo w (IT S v) S v st
 good:dP st
 gl:Gl w S
 low:a.heap.size<=S
theorem iH.more{a:LC}{st:ex}(h:iH a w S v st)(hb:La w w'):iH a w' S v st:=⟨ab h.bel hb,h.srv.bel hb,h.good,h.gl.bel hb,h.low⟩
theorem wX(a w:LC)(hb:La a w)(h1:cn w)(h2:bj w)(h3:di w):Calls prog 17 #[] w fun e w'=>e=.returned (.pointer (some ⟨w.heap.size,0,none⟩))/\iH a w' w.heap.size (.slice none 0 0) vm/\La w w':=
 (JH w).mono fun e w' h=>⟨h.1,⟨ab hb h.2.2,h.2.1.weak,AW,(Jq h1 h2 h3).bel h.2.2,hb.size⟩,h.2.2⟩
theorem jy{a:LC}{st:ex}(h:iH a w S v st)(q:cm)(hn:q.name.length<=9223372036854775807)(hq:q.body.length<=9223372036854775807)(hw:q.who.length<=9223372036854775807):Calls prog 14 #[.pointer (some ⟨S,0,none⟩),.agg (Lf q)] w fun e w'=>∃ v',e=.returned (.agg #[.int .i64 (je st q).2.code,.int .i64 (je st q).2.n,.string ⟨(je st q).2.body.toArray⟩])/\iH a w' S v' (je st q).1/\kS w w' S v/\∀ g,v'.ownBlock=some g->v.ownBlock=some g\/w.heap.size<=g:=
 (Kd w (IT S v) S v st q h.srv h.good h.gl hn hq hw).mono fun e w' hh=>by
  obtain⟨v',rfl,h1,h2,h3⟩:=hh;exact⟨v',rfl,⟨Ik h.bel h3 h.low (fun k hk=>by have:=h.srv.ne hk;have:=h.low;omega),h1.weak,Ib h.good,h.gl.sfr h3 (fun k hk=>(h.srv.ne hk).1),h.low⟩,h3,h2⟩
theorem fl{a:LC}{st:ex}(h:iH a w S v st):Calls prog 11 #[.pointer (some ⟨S,0,none⟩)] w fun e w'=>e=.returned (.slice (some ⟨w.heap.size,0,none⟩) st.ths.length st.ths.length)/\dm w' w.heap.size (fun j=>w.heap.size < j) st.ths (.slice (some ⟨w.heap.size,0,none⟩) st.ths.length st.ths.length)/\iH a w' S v st/\La w w':=
 (Bl w _ S v st h.srv h.good).mono fun e w' hh=>⟨hh.1,hh.2.1,h.more hh.2.2,hh.2.2⟩
theorem dK.sfr{c n b}(h:dK w g c n b)(f:kS w w' S v)(h1:g≠S)(h2:v.ownBlock≠some g):dK w' g c n b:=(f.block g (MF.1 h).1 h1 h2).trans h
theorem Fb(w)(h1:cn w)(h2:bj w)(h3:di w):Calls prog 15 #[] w fun e w'=>e=.returned (.bool true)/\La w w':=by
 have NEW:=aa (wX w w (MK _ _) h1 h2 h3);clear h1 h2 h3;go_enter func15,ntmps15;go_upto_region 4 with (go_at_call 17;refine NEW.o.mono ?_;rintro e w1 ⟨rfl,hl,hb⟩;have L1:=aa hl;have SZ1:=aa hb.size;clear hl hb)
 have DO1:=jy L1.o zu (by decide) (by decide) (by decide);rw[KM]at DO1;have DOA:=aa DO1;clear DO1;go_upto_region 5 with (go_at_call 14;refine DOA.o.mono ?_;rintro e w2 ⟨v2,rfl,k1,k2,k3⟩;have L2:=aa k1;clear k1 k2 k3)
 obtain⟨W2,hW2⟩:∃ W,W=w2.alloc (.cells #[.int .i64 0,.int .i64 1,.string ⟨#[]⟩] 31):=⟨_,rfl⟩
 have L3:Ll (iH w W2 w.heap.size v2 ⟨[EW],0,1,1⟩):=aa (by rw[hW2];exact L2.o.more (ae _ _));have R3:Ll (dK W2 w2.heap.size 0 1 []):=aa (by rw[hW2];exact MN _ _);have N3:Ll (w2.heap.size≠w.heap.size/\v2.ownBlock≠some w2.heap.size):=aa ⟨by have:=L2.o.srv.blk.lt;omega,fun e=>by have:=L2.o.srv.ne e;omega⟩;rw[<-hW2];clear hW2 L2;have DO2:=jy L3.o yB (by decide) (by decide) (by decide);rw[KS]at DO2;have DOB:=aa DO2;clear DO2;go_upto_region 6 with (go_at_call 14;refine DOB.o.mono ?_;rintro e w4 ⟨v4,rfl,k1,k2,k3⟩;have L4:=aa k1;have R4:=aa (R3.o.sfr k2 N3.o.1 N3.o.2);have N4:Ll (v4.ownBlock≠some w2.heap.size):=aa (fun e9=>by rcases k3 _ e9 with e8 | e8;exact N3.o.2 e8;have:=(MF.1 R3.o).1;omega);clear k1 k2 k3)
 obtain⟨W4,hW4⟩:∃ W,W=w4.alloc (.cells #[.int .i64 0,.int .i64 2,.string ⟨#[]⟩] 31):=⟨_,rfl⟩
 have L5:Ll (iH w W4 w.heap.size v4 ⟨[zK],0,2,2⟩):=aa (by rw[hW4];exact L4.o.more (ae _ _));have R5:Ll (dK W4 w4.heap.size 0 2 []):=aa (by rw[hW4];exact MN _ _);have R3b:Ll (dK W4 w2.heap.size 0 1 []):=aa (by rw[hW4];exact R4.o.bel (ae _ _));have N5:Ll (w4.heap.size≠w.heap.size/\v4.ownBlock≠some w4.heap.size):=aa ⟨by have:=L4.o.srv.blk.lt;omega,fun e=>by have:=L4.o.srv.ne e;omega⟩;rw[<-hW4];clear hW4 L4 R4 R3 L3;obtain⟨sC,rC,hC⟩:∃ sC rC,je ⟨[zK],0,2,2⟩ Fo=(sC,rC):=⟨_,_,rfl⟩
 have CN:Ll (rC.n=1/\sC.ths.length=1):=aa (by have:=KU;rw[hC]at this;exact this);have DO3:=jy L5.o Fo (by decide) (by decide) (by decide);rw[hC]at DO3;have DOC:=aa DO3;clear DO3 hC;go_upto_region 7 with (go_at_call 14;refine DOC.o.mono ?_;rintro e w6 ⟨v6,rfl,k1,k2,k3⟩;have L6:=aa k1;have R6:=aa (R5.o.sfr k2 N5.o.1 N5.o.2);have R6b:=aa (R3b.o.sfr k2 N3.o.1 N4.o);clear k1 k2 k3)
 obtain⟨W6,hW6⟩:∃ W,W=w6.alloc (.cells #[.int .i64 rC.code,.int .i64 rC.n,.string ⟨rC.body.toArray⟩] 31):=⟨_,rfl⟩
 have L7:Ll (iH w W6 w.heap.size v6 sC):=aa (by rw[hW6];exact L6.o.more (ae _ _));have R7:Ll (dK W6 w6.heap.size rC.code rC.n rC.body):=aa (by rw[hW6];exact MN _ _);have R7b:Ll (dK W6 w4.heap.size 0 2 []):=aa (by rw[hW6];exact R6.o.bel (ae _ _));have R7c:Ll (dK W6 w2.heap.size 0 1 []):=aa (by rw[hW6];exact R6b.o.bel (ae _ _));rw[<-hW6];clear hW6 L6 R6 R6b R5 R3b L5;have THG:=aa (fl L7.o);obtain⟨x0,x1,x2,-⟩:=R7.o.c;have y0_:=R7b.o.c;have z0_:=R7c.o.c;rw[CN.o.1]at x1;rw[CN.o.2]at THG;go_wp2_with (go_at_call 11;refine THG.o.mono ?_;rintro e w8 ⟨rfl,-,h9,-⟩;have B8:=aa h9.bel;clear h9)
 go_ret;exact⟨rfl,B8.o⟩
variable {n k i c:Nat}
def fc (w:LC) (l:List cm) (v:Value):Prop:=
 l.length<=9223372036854775807/\(∀ q∈l,q.name.length<=9223372036854775807/\q.body.length<=9223372036854775807/\q.who.length<=9223372036854775807)/\(l=[]/\(∃ a,v=.slice a 0 0)\/∃ g off c,v=.slice (some ⟨g,off,none⟩) l.length c/\l.length<=c/\c<=9223372036854775807/\∀ (i:Nat) (q:cm),l[i]?=some q->w.cell? ⟨g,off+i * 8,none⟩=some (.int .i64 q.kind)/\w.cell? ⟨g,off+i * 8+1,none⟩=some (.string ⟨q.name.toArray⟩)/\w.cell? ⟨g,off+i * 8+2,none⟩=some (.string ⟨q.who.toArray⟩)/\w.cell? ⟨g,off+i * 8+3,none⟩=some (.string ⟨q.body.toArray⟩)/\w.cell? ⟨g,off+i * 8+4,none⟩=some (.int .i64 q.version)/\w.cell? ⟨g,off+i * 8+5,none⟩=some (.int .i64 q.n)/\w.cell? ⟨g,off+i * 8+6,none⟩=some (.int .i64 q.order)/\w.cell? ⟨g,off+i * 8+7,none⟩=some (.bool q.force))
theorem fc.form{l:List cm}(h:fc w l v):∃ a c,v=.slice a l.length c:=by
 rcases h.2.2 with⟨rfl,a,rfl⟩ | ⟨g,off,c,rfl,-⟩
 ·exact⟨_,_,rfl⟩
 ·exact⟨_,_,rfl⟩
theorem fc.at{l:List cm}{a}{q:cm}(h:fc w l (.slice a n c))(hi:l[i]?=some q):∃ g off,a=some ⟨g,off,none⟩/\l.length<=c/\c<=9223372036854775807/\w.cell? ⟨g,off+i * 8,none⟩=some (.int .i64 q.kind)/\w.cell? ⟨g,off+i * 8+1,none⟩=some (.string ⟨q.name.toArray⟩)/\w.cell? ⟨g,off+i * 8+2,none⟩=some (.string ⟨q.who.toArray⟩)/\w.cell? ⟨g,off+i * 8+3,none⟩=some (.string ⟨q.body.toArray⟩)/\w.cell? ⟨g,off+i * 8+4,none⟩=some (.int .i64 q.version)/\w.cell? ⟨g,off+i * 8+5,none⟩=some (.int .i64 q.n)/\w.cell? ⟨g,off+i * 8+6,none⟩=some (.int .i64 q.order)/\w.cell? ⟨g,off+i * 8+7,none⟩=some (.bool q.force):=by
 rcases h.2.2 with⟨rfl,a,e⟩ | ⟨g,off,c',e,h1,h2,h3⟩
 ·simp at hi
 ·simp only[Value.slice.injEq]at e;obtain⟨rfl,-,rfl⟩:=e;exact⟨g,off,rfl,h1,h2,h3 i q hi⟩
noncomputable def J4 (s:ex) (l:List cm):ex:=l.foldl (fun s a=>(je s a).1) s
noncomputable def oQ (l:List cm) (k:Nat):ex:=J4 vm (l.take k)
theorem uD{l:List cm}{q:cm}(h:l[k]?=some q):oQ l (k+1)=(je (oQ l k) q).1:=by
 obtain⟨hk,rfl⟩:=Mz.1 h;unfold oQ J4;rw[List.take_succ_eq_append_getElem hk,List.foldl_append];rfl
structure Jf (a:LC) (l:List cm) (S0 g:Nat) (lb:Array Value) (I:Nat->LC->Prop):Prop where
 bel:∀ k W W',I k W->La W W'->I k W'
 sfr:∀ k W W' S v,I k W->kS W W' S v->S0<=S->(∀ r,v.ownBlock=some r->S < r)->I k W'
 step:∀ k q W S v was,l[k]?=some q->k < 100->I k W->iH a W S v (oQ l (k+1))->S0<=S->cO W (fun j=>S < j) (oQ l k).ths was->Calls prog g (#[.pointer (some ⟨S,0,none⟩),was,.agg (Lf q),.agg #[.int .i64 (je (oQ l k) q).2.code,.int .i64 (je (oQ l k) q).2.n,.string ⟨(je (oQ l k) q).2.body.toArray⟩]]++lb) W fun e w'=>e=.returned (.bool true)/\iH a w' S v (oQ l (k+1))/\I (k+1) w'
def vp (a w:LC) (l:List cm) (I:Nat->LC->Prop) (e:Ending) (w':LC):Prop:=∃ S v,e=.returned (.tuple #[.pointer (some ⟨S,0,none⟩),.bool true])/\iH a w' S v (oQ l (min l.length 100))/\w.heap.size<=S/\I (min l.length 100) w'
theorem Ip(a w:LC)(l:List cm)(v g)(lb:Array Value)(I:Nat->LC->Prop)(eg:∀ args w,(callFunc g args).run prog w=.ok (.enter g args) w)(hb:La a w)(hl:fc a l v)(h1:cn w)(h2:bj w)(h3:di w)(hI:I 0 w)(hL:Jf a l w.heap.size g lb I):Calls prog 7 #[v,.func (.func g) #[] lb] w fun e w'=>vp a w l I e w':=by
 obtain⟨va,vc,rfl⟩:=hl.form;have ALV:=aa (Fb w h1 h2 h3);have NEW:Ll (∀ W,La w W->Calls prog 17 #[] W fun e w'=>e=.returned (.pointer (some ⟨W.heap.size,0,none⟩))/\iH a w' W.heap.size (.slice none 0 0) vm/\La W w'):=aa (fun W hW=>wX a W (ab hb hW) (h1.grown (r:=none) (aq hW) (by simp)) (h2.bel hW) (h3.bel hW));have HL:=aa hl;have LK:=aa hL;have HI:=aa hI;have hll:=hl.1;clear h1 h2 h3 hb hl hL hI;go_enter func7,ntmps7;go_upto_region 3 with (go_at_call 15;refine ALV.o.mono ?_;rintro e w1 ⟨rfl,hb1⟩;have B1:=aa hb1;clear hb1)
 go_upto_region 4 with (go_at_call 17;refine(NEW.o _ B1.o).mono ?_;rintro e w2 ⟨rfl,hl2,hb2⟩;have L2:=aa hl2;have B2:=aa (ab B1.o hb2);clear hl2 hb2)
 have I2:=aa (LK.o.bel _ _ _ HI.o B2.o);have SL:Ll (w.heap.size<=w1.heap.size):=aa B1.o.size;obtain⟨S,hS⟩:∃ S,S=w1.heap.size:=⟨_,rfl⟩
 rw[<-hS]at L2 SL ⊢;clear hS;go_wp2_with fail
 go_loopg [7] (min l.length 100) (fun gk iv wr=>∃ k:Nat,k<=min l.length 100/\gk=min l.length 100 - k/\iv=.int .i64 k/\∃ v9,Ll (iH a wr S v9 (oQ l k)/\I k wr))
 case atStart=>exact⟨0,Nat.zero_le _,rfl,rfl,_,aa ⟨L2.o,I2.o⟩⟩
 case round=>
  obtain⟨k,hk,hgk,rfl,v9,J⟩:=hrel;have GK:=aa hgk;clear hgk L2 I2;obtain⟨wo,hwo⟩:∃ wo,wo=wr:=⟨wr,rfl⟩
  subst hwo;have wk:IntKind.i64.wrap ((k:Int)+1)=(k:Int)+1:=by rw[IntKind.wrap_i64];omega
  by_cases hlt:k < min l.length 100
  ·have hlk:k < l.length:=by omega
   obtain⟨q,hq⟩:∃ q,l[k]?=some q:=⟨_,Mw hlk⟩
   have HQ:=aa hq;have HQM:=aa (HL.o.2.1 q (List.mem_of_getElem? hq));have k1:(k:Int) < (l.length:Int):=by omega
   have k2:(k:Int) < 100:=by omega
   have k3:(0:Int)<=(k:Int):=by omega
   obtain⟨b,off,rfl,j1,j2,hcells⟩:=HL.o.at hq;have ACT:Ll (∀ W,La a W->W.cell? ⟨b,off+k * 8,none⟩=some (.int .i64 q.kind)/\W.cell? ⟨b,off+k * 8+1,none⟩=some (.string ⟨q.name.toArray⟩)/\W.cell? ⟨b,off+k * 8+2,none⟩=some (.string ⟨q.who.toArray⟩)/\W.cell? ⟨b,off+k * 8+3,none⟩=some (.string ⟨q.body.toArray⟩)/\W.cell? ⟨b,off+k * 8+4,none⟩=some (.int .i64 q.version)/\W.cell? ⟨b,off+k * 8+5,none⟩=some (.int .i64 q.n)/\W.cell? ⟨b,off+k * 8+6,none⟩=some (.int .i64 q.order)/\W.cell? ⟨b,off+k * 8+7,none⟩=some (.bool q.force)):=aa (fun W hW=>⟨ah hW hcells.1,ah hW hcells.2.1,ah hW hcells.2.2.1,ah hW hcells.2.2.2.1,ah hW hcells.2.2.2.2.1,ah hW hcells.2.2.2.2.2.1,ah hW hcells.2.2.2.2.2.2.1,ah hW hcells.2.2.2.2.2.2.2⟩);clear hcells hq;have THG:=aa (fl J.o.1);go_upto_region 8 with (go_at_call 11;refine THG.o.mono ?_;rintro e w3 ⟨rfl,ht3,hl3,hb3⟩;have T3:=aa ht3;have L3:=aa hl3;have B3:=aa hb3;clear ht3 hl3 hb3)
   have DO:=aa (jy L3.o q HQM.o.1 HQM.o.2.1 HQM.o.2.2);obtain⟨q0,q1,q2,q3,q4,q5,q6,q7⟩:=ACT.o _ L3.o.bel;obtain⟨rr,hrr⟩:∃ rr,(je (oQ l k) q).2=rr:=⟨_,rfl⟩
   have HRR:=aa hrr;rw[hrr]at DO;clear hrr;go_upto_region 9 with (go_at_call 14;refine DO.o.mono ?_;rintro e w4 ⟨v4,rfl,p1,p2,p3⟩;have LD:=aa p1;have SF:=aa p2;have VN:=aa p3;clear p1 p2 p3)
   clear q0 q1 q2 q3 q4 q5 q6 q7;obtain⟨W4,hW4⟩:∃ W,W=w4.alloc (.cells #[.int .i64 rr.code,.int .i64 rr.n,.string ⟨rr.body.toArray⟩] 31):=⟨_,rfl⟩
   have A4:Ll (La w4 W4):=aa (by rw[hW4];exact ae _ _);have RB4:Ll (dK W4 w4.heap.size rr.code rr.n rr.body):=aa (by rw[hW4];exact MN _ _);rw[<-hW4];clear hW4;have L4:Ll (iH a W4 S v4 (oQ l (k+1))):=aa (by rw[uD HQ.o];exact LD.o.more A4.o);have I4:Ll (I k W4):=aa (LK.o.bel _ _ _ (LK.o.sfr _ _ _ _ _ (LK.o.bel _ _ _ J.o.2 B3.o) SF.o SL.o (fun r hr=>(L3.o.srv.ne hr).1)) A4.o);have T4:Ll (cO W4 (fun j=>S < j) (oQ l k).ths (.slice (some ⟨wo.heap.size,0,none⟩) (oQ l k).ths.length (oQ l k).ths.length)):=aa (by
    have hS:=J.o.1.srv.blk.lt;have hR:∀ r,v9.ownBlock=some r->r < wo.heap.size:=fun r hr=>(J.o.1.srv.ne hr).2;refine cO.bel (cO.imp (w:=w3) (T3.o.ths.low.weak (ok':=fun j=>wo.heap.size<=j/\j < w3.heap.size) fun j hj=>⟨?_,hj.2⟩) fun j x hj hx=>⟨by omega,?_⟩) A4.o
    ·rcases hj.1 with h9 | h9
     ·omega
     ·have:=Option.some.inj (show some wo.heap.size=some j from h9);omega
    ·have hbk:=SF.o.block j.block hj.2 (by omega) (fun e=>by have:=hR _ e;omega);rw[<-hx];simp only[World.cell?,hbk])
   have LOOK:Ll (∀ W,La W4 W->Calls prog g (#[.pointer (some ⟨S,0,none⟩),.slice (some ⟨wo.heap.size,0,none⟩) (oQ l k).ths.length (oQ l k).ths.length,.agg (Lf q),.agg #[.int .i64 rr.code,.int .i64 rr.n,.string ⟨rr.body.toArray⟩]]++lb) W fun e w'=>e=.returned (.bool true)/\iH a w' S v4 (oQ l (k+1))/\I (k+1) w'):=aa (fun W hW=>by
    have:=LK.o.step k q W S v4 _ HQ.o (by omega) (LK.o.bel _ _ _ I4.o hW) (L4.o.more hW) SL.o (T4.o.bel hW);rw[HRR.o]at this;exact this)
   obtain⟨q0,q1,q2,q3,q4,q5,q6,q7⟩:=ACT.o _ L4.o.bel;have y0_:=RB4.o.c;go_region_with (go_at_fn g;refine(LOOK.o _ (aC _ 1)).mono ?_;rintro e w6 ⟨rfl,h1,h2⟩;have L6:=aa h1;have I6:=aa h2;clear h1 h2)
   all_goals
    go_wp2_with fail
    go_roundg (min l.length 100 - (k+1))
    case measure=>rw[GK.o];omega
    case rel=>exact⟨k+1,by omega,rfl,by go_num,_,aa ⟨L6.o,I6.o⟩⟩
  ·have d9:¬((k:Int) < (l.length:Int)/\(k:Int) < 100):=by omega
   have Mc:k=min l.length 100:=by omega
   have E:Ll (iH a wo S v9 (oQ l (min l.length 100))/\I (min l.length 100) wo):=aa (by rw[<-Mc];exact J.o);by_cases hkl:(k:Int) < (l.length:Int)
   ·have k2:¬(k:Int) < 100:=by omega
    clear Mc d9;go_wp2_with fail
    refine MM (v:=.tuple #[.pointer (some ⟨S,0,none⟩),.bool true]) ?_ rfl ?_
    ·simp[results,results7,go_sem]
    ·exact⟨S,v9,rfl,E.o.1,SL.o,E.o.2⟩
   ·clear Mc d9;go_wp2_with fail
    refine MM (v:=.tuple #[.pointer (some ⟨S,0,none⟩),.bool true]) ?_ rfl ?_
    ·simp[results,results7,go_sem]
    ·exact⟨S,v9,rfl,E.o.1,SL.o,E.o.2⟩
section
open Go.ChangeShapes Go.WideShapes Go.ChangeAt Go.RowKit
theorem nH:Tryz.prog.cellsOf 3=1:=by kernel_rfl
theorem nK:Tryz.prog.cellsOf 4=1:=by kernel_rfl
theorem I8:Tryz.prog.cellsOf 28=8:=by kernel_rfl
theorem pM:Tryz.prog.readableRec 28=true:=by kernel_rfl
theorem Ap:28 < Tryz.prog.types.size:=of_decide_eq_true (by kernel_rfl)
theorem pr:Tryz.prog.readableRec 22=true:=by kernel_rfl
theorem Al:22 < Tryz.prog.types.size:=of_decide_eq_true (by kernel_rfl)
def me (o:cm):Prop:=o.name.length<=9223372036854775807/\o.body.length<=9223372036854775807/\o.who.length<=9223372036854775807
theorem EX{H:Type}{enc:TypeId × Value->H}{W:World}(fuel:Nat)(cs:List Value)(x:DataW H × List MemPlace)(h:DataW.trod enc Tryz.prog W 0 (fun _=>true) true fuel 28 cs=some x):∃ o:cm,cs=[.int .i64 o.kind,.string ⟨o.name.toArray⟩,.string ⟨o.who.toArray⟩,.string ⟨o.body.toArray⟩,.int .i64 o.version,.int .i64 o.n,.int .i64 o.order,.bool o.force]/\me o:=by
 obtain⟨xs,n,e,hx,hl,LT,hg⟩:=DataW.trod_struct Tryz.underlying28 h;rw[I8]at hl;match cs,hl,xs,LT with
 | [v0,v1,v2,v3,v4,v5,v6,v7],_,[y0,y1,y2,y3,y4,y5,y6,y7],_=>
  have g0:DataW.trod enc Tryz.prog W 0 (fun _=>true) true n 3 [v0]=some y0:=by simpa [db,nH,nK] using hg 0 _ rfl
  have g1:DataW.trod enc Tryz.prog W 0 (fun _=>true) true n 9 [v1]=some y1:=by simpa [db,nH,nK] using hg 1 _ rfl
  have g2:DataW.trod enc Tryz.prog W 0 (fun _=>true) true n 9 [v2]=some y2:=by simpa [db,nH,nK] using hg 2 _ rfl
  have g3:DataW.trod enc Tryz.prog W 0 (fun _=>true) true n 9 [v3]=some y3:=by simpa [db,nH,nK] using hg 3 _ rfl
  have g4:DataW.trod enc Tryz.prog W 0 (fun _=>true) true n 3 [v4]=some y4:=by simpa [db,nH,nK] using hg 4 _ rfl
  have g5:DataW.trod enc Tryz.prog W 0 (fun _=>true) true n 3 [v5]=some y5:=by simpa [db,nH,nK] using hg 5 _ rfl
  have g6:DataW.trod enc Tryz.prog W 0 (fun _=>true) true n 3 [v6]=some y6:=by simpa [db,nH,nK] using hg 6 _ rfl
  have g7:DataW.trod enc Tryz.prog W 0 (fun _=>true) true n 4 [v7]=some y7:=by simpa [db,nH,nK] using hg 7 _ rfl
  obtain⟨z0,e0,-,-⟩:=DataW.trod_int Tryz.underlying3 g0;obtain⟨s1,e1,-,l1⟩:=DataW.trod_string Tryz.underlying9 g1;obtain⟨s2,e2,-,l2⟩:=DataW.trod_string Tryz.underlying9 g2;obtain⟨s3,e3,-,l3⟩:=DataW.trod_string Tryz.underlying9 g3;obtain⟨z4,e4,-,-⟩:=DataW.trod_int Tryz.underlying3 g4;obtain⟨z5,e5,-,-⟩:=DataW.trod_int Tryz.underlying3 g5;obtain⟨z6,e6,-,-⟩:=DataW.trod_int Tryz.underlying3 g6;obtain⟨b7,e7,-⟩:=DataW.trod_bool Tryz.underlying4 g7;simp only[List.cons.injEq,and_true]at e0 e1 e2 e3 e4 e5 e6 e7;subst e0 e1 e2 e3 e4 e5 e6 e7;unfold maxLen at l1 l2 l3;exact⟨⟨z0,s1.data.toList,s2.data.toList,s3.data.toList,z4,z5,z6,b7⟩,by simp,by rw[Array.length_toList];exact l1,by rw[Array.length_toList];exact l3,by rw[Array.length_toList];exact l2⟩
theorem ww{H:Type}{enc:TypeId × Value->H}{W:World}{base:Nat}{v:Value}{d:DataW H}{p:List MemPlace}(hk:Value.okWide Tryz.prog W .any base 28 v)(h:DataW.Trod enc Tryz.prog W 0 (fun _=>true) true 28 v d p):∃ o:cm,v=.agg (Lf o)/\me o:=by
 obtain⟨cs,rfl,-⟩:=okWide_struct Tryz.underlying28 hk;obtain⟨f,hf⟩:=h;have hf2:DataW.trod enc Tryz.prog W 0 (fun _=>true) true f 28 cs.toList=some (d,p):=hf;obtain⟨cl⟩:=cs;obtain⟨o,e,h⟩:=EX f cl _ hf2;exact⟨o,by rw[e],h⟩
theorem uV{H:Type}{enc:TypeId × Value->H}{W:World}{base:Nat}{v:Value}{d:DataW H}{p:List MemPlace}(hk:Value.okWide Tryz.prog W .any base 22 v)(h:DataW.Trod enc Tryz.prog W 0 (fun _=>true) true 22 v d p):∃ os,fc W os v:=by
 obtain⟨a0,len0,cap0,rfl⟩:=okWide_slice Tryz.underlying22 hk;obtain⟨f,hf⟩:=h;have hf':DataW.trod enc Tryz.prog W 0 (fun _=>true) true f 22 [.slice a0 len0 cap0]=some (d,p):=hf;rcases DataW.trod_slice Tryz.underlying22 hf' with⟨e,-⟩ | ⟨a,len,cap,elems,rest,k,ek,e,hx,-,hl,hm,LT,hel,hsp,-⟩
 ·simp only[List.cons.injEq,and_true]at e;exact⟨[],by simp,by simp,.inl ⟨rfl,none,e⟩⟩
 ·simp only[List.cons.injEq,and_true]at e;rw[I8]at hel hsp;obtain⟨hrl,hrest⟩:=hsp rfl;unfold maxLen at hm;have all:∀ i,i < len->∃ cs' y,W.cells? 0 (a.add (i * 8)) 8=some cs'/\DataW.trod enc Tryz.prog W 0 (fun _=>true) true k 28 cs'=some y:=by
   intro i hi;have:=hel i hi;rw[Mw (by omega)]at this;obtain⟨cs',h1,h2⟩:=Option.bind_eq_some_iff.1 this;exact⟨cs',_,h1,h2⟩
  by_cases h0:len=0
  ·subst h0;by_cases hc0:cap=0
   ·subst hc0;exact⟨[],by simp,by simp,.inl ⟨rfl,some a,e⟩⟩
   ·have ha:a=⟨a.block,a.off,none⟩:=by
     have:=hrest 0 (by omega);rw[Mw (by omega)]at this;obtain⟨cs',h1,-⟩:=Option.bind_eq_some_iff.1 this;obtain⟨-,h2,h3⟩:=World.cells?_some h1;have:=h3 0 (by omega);rw[Mw (by omega)]at this;exact qv (sg (v:=cs'[0]) (by simpa [Addr.add] using this))
    exact⟨[],by simp,by simp,.inr ⟨a.block,a.off,cap,by rw[<-ha];exact e,by simp,hm,fun i o ho=>by simp at ho⟩⟩
  ·have ha:a=⟨a.block,a.off,none⟩:=by
    obtain⟨cs',y,h1,-⟩:=all 0 (by omega);obtain⟨-,h2,h3⟩:=World.cells?_some h1;have:=h3 0 (by omega);rw[Mw (by omega)]at this;exact qv (sg (v:=cs'[0]) (by simpa [Addr.add] using this))
   obtain⟨T,hT⟩:=@Go.Deep.choose_lt cm ⟨⟨0,[],[],[],0,0,0,false⟩⟩ len (fun i o=>W.cells? 0 (a.add (i * 8)) 8=some [.int .i64 o.kind,.string ⟨o.name.toArray⟩,.string ⟨o.who.toArray⟩,.string ⟨o.body.toArray⟩,.int .i64 o.version,.int .i64 o.n,.int .i64 o.order,.bool o.force]/\me o) (fun i hi=>by
    obtain⟨cs',y,h1,h2⟩:=all i hi;obtain⟨o,rfl,hn⟩:=EX k cs' y h2;exact⟨o,h1,hn⟩)
   have mem:∀ q∈(List.range len).map T,me q:=by
    intro q hq;obtain⟨i,hi,rfl⟩:=List.mem_map.1 hq;exact(hT i (List.mem_range.1 hi)).2
   refine⟨(List.range len).map T,by simp only[List.length_map,List.length_range];omega,mem,.inr ⟨a.block,a.off,cap,by simp only[List.length_map,List.length_range];rw[<-ha];exact e,by simp only[List.length_map,List.length_range];omega,hm,fun i o ho=>?_⟩⟩;simp only[List.getElem?_map,Option.map_eq_some_iff]at ho;obtain⟨j,hj,rfl⟩:=ho;obtain⟨hj1,hj2⟩:=Mz.1 hj;simp only[List.length_range]at hj1;simp only[List.getElem_range]at hj2;subst hj2;obtain⟨-,-,h3⟩:=World.cells?_some (hT i hj1).1;rw[ha]at h3;have c:∀ q,q < 8->W.cell? ⟨a.block,a.off+i * 8+q,none⟩=[.int .i64 (T i).kind,.string ⟨(T i).name.toArray⟩,.string ⟨(T i).who.toArray⟩,.string ⟨(T i).body.toArray⟩,.int .i64 (T i).version,.int .i64 (T i).n,.int .i64 (T i).order,.bool (T i).force][q]?:=by
    intro q hq;have:=h3 q hq;rw[eh,eh]at this;exact this
   exact⟨c 0 (by omega),c 1 (by omega),c 2 (by omega),c 3 (by omega),c 4 (by omega),c 5 (by omega),c 6 (by omega),c 7 (by omega)⟩
end
variable {wr:World}
theorem gY(h:∃ n,wr=w.drewN n){a}(hc:w.cell? a=some v):wr.cell? a=some v:=by
 obtain⟨n,rfl⟩:=h;exact hc
theorem DF(h:∃ n,wr=w.drewN n):∃ n,wr.drew=w.drewN n:=by
 obtain⟨n,rfl⟩:=h;exact⟨n+1,rfl⟩
theorem vD(h:∃ n,wr=w.drewN n)(m):∃ n,wr.drewN m=w.drewN n:=by
 obtain⟨n,rfl⟩:=h;exact⟨n+m,by simp[World.drewN,Nat.add_assoc]⟩
theorem pE(h:∃ n,wr=w.drewN n):La w wr:=by
 obtain⟨n,rfl⟩:=h;exact aC _ _
theorem zg{α:Type}{xs ys:List α}(h:xs.take k=ys.take k)(hx:k < xs.length)(hy:k < ys.length)(he:xs[k]=ys[k]):xs.take (k+1)=ys.take (k+1):=by
 rw[List.take_succ_eq_append_getElem hx,List.take_succ_eq_append_getElem hy,h,he]
theorem uC(w:LC)(ok ok' xs ys v u)(h:ao w ok xs v)(h':ao w ok' ys u):Calls prog 38 #[v,u] w fun e w'=>e=.returned (.bool (decide (xs=ys)))/\∃ n,w'=w.drewN n:=by
 have H:=aa h;have H':=aa h';obtain⟨a,c,rfl⟩:=h.form;obtain⟨a',c',rfl⟩:=h'.form;have ll:=h.1;have ll':=h'.1;unfold maxLen at ll ll';clear h h';by_cases hl:xs.length=ys.length
 ·have q0:((xs.length:Int) != (ys.length:Int))=false:=by simp[hl]
  have q00:((xs.length:Int) == (ys.length:Int))=true:=by simp[hl]
  have HLN:=aa hl;rw[<-hl];clear hl;go_enter func38,ntmps38;go_wp2_with fail
  go_loopg [13] xs.length (fun gk i wr=>∃ k:Nat,k<=xs.length/\gk=xs.length - k/\i=.int .i64 k/\Ll (xs.take k=ys.take k)/\Ll (∃ n,wr=w.drewN n))
  case atStart=>exact⟨0,Nat.zero_le _,rfl,rfl,rfl,aa ⟨0,rfl⟩⟩
  case round=>
   obtain⟨k,hk,hgk,rfl,AL,BL⟩:=hrel;have GK:=aa hgk;clear hgk;by_cases hlt:k < xs.length
   ·have hlt':k < ys.length:=HLN.o ▸ hlt;obtain⟨b,off,rfl,hc1,hc2,hcell0⟩:=gQ H.o hlt;obtain⟨b',off',rfl,hc1',hc2',hcell0'⟩:=gQ H'.o hlt';unfold maxLen at hc2 hc2';have w2:(k:Int) < (xs.length:Int):=by omega
    have w3:(0:Int)<=(k:Int):=by omega
    have TK:Ll (xs[k]=ys[k]->xs.take (k+1)=ys.take (k+1)):=aa (zg AL.o hlt hlt');have NE:Ll (xs[k]≠ys[k]->decide (xs=ys)=false):=aa (fun h9=>decide_eq_false (fun e=>h9 (by subst e;rfl)));have d0:=gY BL.o hcell0;have d1:=gY BL.o hcell0';have BD:Ll (∃ n,wr.drew=w.drewN n):=aa (DF BL.o);clear hcell0 hcell0';by_cases he:xs[k]=ys[k]
    ·have TK2:=aa (TK.o he);rw[<-he]at d1;clear he;go_wp2_with fail
     go_region
     go_wp2_with fail
     go_roundg (xs.length - (k+1))
     case measure=>rw[GK.o];omega
     case rel=>exact⟨k+1,hlt,rfl,by go_num,TK2,BD⟩
    ·have R:=aa (NE.o he);have e9:(xs[k] == ys[k])=false:=by rw[MO];exact he
     obtain⟨x,hx⟩:∃ x,xs[k]=x:=⟨_,rfl⟩
     obtain⟨y,hy⟩:∃ y,ys[k]=y:=⟨_,rfl⟩
     rw[hx]at d0 he e9;rw[hy]at d1 he e9;clear hx hy TK NE;go_wp2_with fail
     go_region
     go_wp2_with fail
     go_ret;exact⟨by rw[R.o];rfl,BD.o⟩
   ·have d9:¬(k:Int) < (xs.length:Int):=by omega
    have R:Ll (decide (xs=ys)=true):=aa (decide_eq_true (by
     have:=AL.o;rwa [MD (by omega),MD (by have:=HLN.o;omega)]at this))
    go_wp2_with fail
    go_ret;exact⟨by rw[R.o];rfl,BL.o⟩
 ·have q0:((xs.length:Int) != (ys.length:Int))=true:=by simp;omega
  have q00:((xs.length:Int) == (ys.length:Int))=false:=by rw[MO];omega
  have R:Ll (decide (xs=ys)=false):=aa (decide_eq_false (fun e=>hl (by rw[e])));go_enter func38,ntmps38;go_wp2_with fail
  go_ret;exact⟨by rw[R.o];rfl,0,rfl⟩
theorem ub(w ok ok' xs v u)(h:aB w ok xs v)(h':aB w ok' xs u):Calls prog 25 #[v,u] w fun e w'=>e=.returned (.bool true)/\∃ n,w'=w.drewN n:=by
 have H:=aa h;have H':=aa h';obtain⟨a,c,rfl⟩:=h.form;obtain⟨a',c',rfl⟩:=h'.form;have ll:=h.1;unfold maxLen at ll;clear h h';go_enter func25,ntmps25;go_wp2_with fail
 go_loopg [13] xs.length (fun gk i wr=>∃ k:Nat,k<=xs.length/\gk=xs.length - k/\i=.int .i64 k/\Ll (∃ n,wr=w.drewN n))
 case atStart=>exact⟨0,Nat.zero_le _,rfl,rfl,aa ⟨0,rfl⟩⟩
 case round=>
  obtain⟨k,hk,hgk,rfl,BL⟩:=hrel;have GK:=aa hgk;clear hgk;by_cases hlt:k < xs.length
  ·obtain⟨b1,o1,pa,pc,rfl,j1,j2,k1,k2,k3,-⟩:=H.o.at hlt;obtain⟨b2,o2,qa,qc,rfl,i1,i2,l1,l2,l3,-⟩:=H'.o.at hlt;have w2:(k:Int) < (xs.length:Int):=by omega
   have w3:(0:Int)<=(k:Int):=by omega
   have d0:=gY BL.o k1;have d1:=gY BL.o k2;have d2:=gY BL.o l1;have d3:=gY BL.o l2;have TX:Ll (∀ W,(∃ n,W=wr.drewN n)->Calls prog 38 #[.slice pa xs[k].paths.length pc,.slice qa xs[k].paths.length qc] W fun e w'=>e=.returned (.bool true)/\∃ n,w'=wr.drewN n):=aa (fun W hW=>by
    have b9:=ab (pE BL.o) (pE hW);refine(uC W ok ok' _ _ _ _ (k3.bel b9) (l3.bel b9)).mono ?_;rintro e w' ⟨rfl,n,rfl⟩;exact⟨by rw[decide_eq_true rfl],vD hW n⟩)
   clear k1 k2 k3 l1 l2 l3;obtain⟨x,hx⟩:∃ x,xs[k]=x:=⟨_,rfl⟩
   rw[hx]at d0 d1 d2 d3 TX;clear hx;have e8:(x.name == x.name)=true:=by simp
   go_upto_region 6 with fail
   go_quiet ((go_at_call 38;exact TX.o _ ⟨_,rfl⟩))
   have B6:=aa (vD BL.o nq);go_wp2_with fail
   go_roundg (xs.length - (k+1))
   case measure=>rw[GK.o];omega
   case rel=>exact⟨k+1,hlt,rfl,by go_num,B6⟩
  ·have d9:¬(k:Int) < (xs.length:Int):=by omega
   go_wp2_with fail
   go_ret;exact⟨rfl,BL.o⟩
theorem tP(w:LC)(ok ok' t a b c d oa oc a' b' c' d' oa' oc')(h:cQ w ok t a b c d oa oc)(h':cQ w ok' t a' b' c' d' oa' oc')(hn:dz t.value):Calls prog 18 #[.agg (Ld t a c b d oa oc),.agg (Ld t a' c' b' d' oa' oc')] w fun e w'=>e=.returned (.bool true)/\La w w':=by
 obtain⟨W2,hW2⟩:∃ W,W=(w.alloc (.cells (Ld t a c b d oa oc) 40)).alloc (.cells (Ld t a' c' b' d' oa' oc') 40):=⟨_,rfl⟩
 have Y2:Ll (La w W2):=aa (by rw[hW2];exact ab (ae _ _) (ae _ _));have X1:fN W2 w.heap.size t a b c d oa oc:=by rw[hW2];exact fb _ _ _
 have X2:fN W2 (w.heap.size+1) t a' b' c' d' oa' oc':=by rw[hW2];exact et _ _ _
 have HX1:=aa X1;have HX2:=aa X2;have HW2:=aa hW2;have SM:=aa (lP W2 ok ok' t.value t.value _ _ (h.val.bel Y2.o) (h'.val.bel Y2.o) (MH (gE hn) (by omega)));have SO:Ll (∀ W,La W2 W->Calls prog 25 #[.slice oa t.owners.length oc,.slice oa' t.owners.length oc'] W fun e w'=>e=.returned (.bool true)/\La W w'):=aa (fun W hW=>(ub W ok ok' _ _ _ (h.own.bel (ab Y2.o hW)) (h'.own.bel (ab Y2.o hW))).mono fun e w' hh=>⟨hh.1,pE hh.2⟩);have x0_:=X1.c;have y0_:=X2.c;clear hW2 h h' hn X1 X2;go_enter func18,ntmps18;go_upto_region 1 with fail
 rw[<-HW2.o];go_wp2_with (first
  |(go_at_call 24;refine SM.o.mono ?_;rintro e w5 ⟨r5,rfl,h5,hb5⟩;obtain rfl:r5=true:=h5.2 rfl;have B5:=aa hb5;clear h5 hb5;have x0_:=(HX1.o.bel B5.o).c;have y0_:=(HX2.o.bel B5.o).c)
  |(go_at_call 25;refine Lk (SO.o _ B5.o) fun w6 hb6=>?_;have B6:=aa (ab Y2.o (ab B5.o hb6));clear hb6))
 go_ret;exact⟨rfl,B6.o⟩
theorem li(w:LC)(ok ok' xs v u)(h:cO w ok xs v)(h':cO w ok' xs u)(hn:∀ t∈xs,dz t.value):Calls prog 10 #[v,u] w fun e w'=>e=.returned (.bool true)/\La w w':=by
 have H:=aa h;have H':=aa h';have HN:=aa hn;obtain⟨a,c,rfl⟩:=h.form;obtain⟨a',c',rfl⟩:=h'.form;have ll:=h.1;clear h h' hn;go_enter func10,ntmps10;go_wp2_with fail
 go_loopg [13] xs.length (fun gk i wr=>∃ k:Nat,k<=xs.length/\gk=xs.length - k/\i=.int .i64 k/\Ll (La w wr))
 case atStart=>exact⟨0,Nat.zero_le _,rfl,rfl,MK _ _⟩
 case round=>
  obtain⟨k,hk,hgk,rfl,BL⟩:=hrel;have GK:=aa hgk;clear hgk;by_cases hlt:k < xs.length
  ·obtain⟨g1,o1,rfl,j1,j2,j3,xa,xb,xc,xd,xoa,xoc,hx,kx⟩:=(H.o.bel BL.o).at hlt;obtain⟨g2,o2,rfl,i1,i2,i3,ya,yb,yc,yd,yoa,yoc,hy,ky⟩:=(H'.o.bel BL.o).at hlt;have NT:=aa (HN.o xs[k] (List.getElem_mem hlt));have w2:(k:Int) < (xs.length:Int):=by omega
   have w3:(0:Int)<=(k:Int):=by omega
   obtain⟨t,ht⟩:∃ t,xs[k]=t:=⟨_,rfl⟩
   rw[ht]at hx hy kx ky NT;clear ht;obtain⟨x0,x1,x2,x3,x4,x5,x6,x7,x8,x9,x10,x11,x12,x13,x14⟩:=hx;obtain⟨y0,y1,y2,y3,y4,y5,y6,y7,y8,y9,y10,y11,y12,y13,y14⟩:=hy;have BD:Ll (La wr wr.drew):=aa (aC wr 1);have ST:=aa (tP wr.drew _ _ t xa xb xc xd xoa xoc ya yb yc yd yoa yoc (kx.bel BD.o) (ky.bel BD.o) NT.o);clear kx ky;go_upto_region 6 with fail
   go_region_with (go_at_call 18;refine ST.o.mono ?_;rintro e w6 ⟨rfl,hb⟩;have B6:=aa (ab BL.o (ab BD.o hb));clear hb)
   all_goals
    go_wp2_with fail
    go_roundg (xs.length - (k+1))
    case measure=>rw[GK.o];omega
    case rel=>exact⟨k+1,hlt,rfl,by go_num,B6⟩
  ·have d9:¬(k:Int) < (xs.length:Int):=by omega
   go_wp2_with fail
   go_ret;exact⟨rfl,BL.o⟩
theorem yK(s:ex)(a:cm):(dD s a).1.acts=s.acts:=by
 unfold dD;simp only;split
 ·rfl
 ·split
  ·split
   ·split <;> rfl
   ·split
    ·rfl
    ·split
     ·split <;> rfl
     ·split
      ·rfl
      ·split
       ·rfl
       ·split <;> rfl
  ·split <;> rfl
theorem Hv{s:ex}{a:cm}(h:s.acts≠300):(je s a).1.acts=s.acts+1:=by
 unfold je;rw[if_neg h];simp only;split
 ·rfl
 ·split
  ·unfold iz;split <;> rfl
  ·split
   ·rfl
   ·exact yK _ _
theorem ur(l:List cm):∀ k,k<=100->k<=l.length->(oQ l k).acts=k
 | 0,_,_=>rfl
 | k+1,h,hk=>by
  have ih:=ur l k (by omega) (by omega);rw[uD (Mw (show k < l.length by omega)),Hv (by rw[ih];omega),ih];rfl
theorem Iy{s:ex}(h:s.acts≠300)(a:cm)(ha:a.kind=0):je s a=({ s with acts:=s.acts+1 },bz 9):=by
 unfold je;rw[if_neg h];simp only;rw[if_pos (.inl (by rw[ha];decide))]
theorem Hg{s:ex}(h:s.acts=300)(a:cm):je s a=(s,bz 10):=by
 unfold je;rw[if_pos h]
theorem Fc(w S v)(q:cm)(r:uf):Calls prog 12 #[.pointer (some ⟨S,0,none⟩),v,.agg (Lf q),.agg #[.int .i64 r.code,.int .i64 r.n,.string ⟨r.body.toArray⟩]] w fun e w'=>e=.returned (.bool true)/\La w w':=by
 go_enter func12,ntmps12;go_wp2_with fail
 go_ret;exact⟨rfl,ab (ae _ _) (ae _ _)⟩
theorem zk(a:LC)(l:List cm)(S0):Jf a l S0 12 #[] (fun _ _=>True):=
 ⟨fun _ _ _ _ _=>trivial,fun _ _ _ _ _ _ _ _ _=>trivial,fun k q W S v was _ _ _ hL _ _=>(Fc W S was q _).mono fun e w' h=>⟨h.1,hL.more h.2,trivial⟩⟩
theorem sM:∀ args w,(callFunc 12 args).run prog w=.ok (.enter 12 args) w:=enters_of func12 (by kernel_rfl) rfl
theorem pD(a w)(l:List cm)(v)(hb:La a w)(hl:fc a l v)(h1:cn w)(h2:bj w)(h3:di w):Calls prog 7 #[v,.func (.func 12) #[] #[]] w fun e w'=>vp a w l (fun _ _=>True) e w':=
 Ip a w l v _ _ _ sM hb hl h1 h2 h3 trivial (zk a l _)
variable {B:Nat}
theorem fc.bel{l:List cm}(h:fc w l v)(hb:La w w'):fc w' l v:=by
 refine⟨h.1,h.2.1,?_⟩;rcases h.2.2 with h | ⟨g,off,c,e,h1,h2,h3⟩
 ·exact .inl h
 ·refine .inr ⟨g,off,c,e,h1,h2,fun i q hq=>?_⟩;obtain⟨q0,q1,q2,q3,q4,q5,q6,q7⟩:=h3 i q hq;exact⟨ah hb q0,ah hb q1,ah hb q2,ah hb q3,ah hb q4,ah hb q5,ah hb q6,ah hb q7⟩
theorem vX{w1 w2:LC}{v' l}(h:dm w1 B (fun j=>B < j) l v')(hB:w.heap.size<=B)(f:kS w1 w2 S v)(hS:S < w.heap.size)(hv:∀ r,v.ownBlock=some r->r < w.heap.size):cO w2 (fun j=>B<=j) l v':=by
 have h1:=h.ths.low;have hb:∀ j,((B < j\/v'.ownBlock=some j)/\j < w1.heap.size)->B<=j:=by
  rintro j ⟨h9 | h9,-⟩
  ·omega
  ·obtain⟨L0,-,h2,-⟩:=h;exact(bY h2 h9).1
 refine h1.imp fun k x hk hx=>⟨hb _ hk,?_⟩
 have h3:=hb _ hk;rw[<-hx];simp only[World.cell?,f.block k.block hk.2 (by omega) (fun e=>by have:=hv _ e;omega)]
theorem vU{s:ex}(h:dP s):∀ t∈s.ths,dz t.value:=fun t ht=>dQ (lq (h.ths t ht).rd)
def Kg:cm:=⟨0,[],[],[],0,0,0,false⟩
theorem topEnds_at(w)(l:List cm)(v)(q:cm)(hl:fc w l v)(hq:q.name.length<=9223372036854775807/\q.body.length<=9223372036854775807/\q.who.length<=9223372036854775807)(h1:cn w)(h2:bj w)(h3:di w):Calls prog 6 #[v,.agg (Lf q)] w fun e w'=>e=.returned (.bool true)/\La w w':=by
 obtain⟨W1,hW1⟩:∃ W,W=w.alloc (.cells (Lf q) 28):=⟨_,rfl⟩
 have Y1:Ll (La w W1):=aa (by rw[hW1];exact ae _ _);have AB:Ll (jC W1 w.heap.size q):=aa (by rw[hW1];exact MN _ _);have HW1:=aa hW1;have PL:=aa (pD W1 W1 l v (MK _ _) (hl.bel Y1.o) (h1.grown (r:=none) (aq Y1.o) (by simp)) (h2.bel Y1.o) (h3.bel Y1.o));have HQ:=aa hq;obtain⟨va,vc,rfl⟩:=hl.form;have hll:=hl.1;clear hW1 h1 h2 h3 hl hq;go_enter func6,ntmps6;go_upto_region 1 with fail
 rw[<-HW1.o];go_upto_region 4 with (go_at_call 7;refine PL.o.mono ?_;rintro e w2 ⟨S,v2,rfl,p1,p2,-⟩;have L2:=aa p1;clear p1 p2)
 obtain⟨m,hm⟩:∃ m,m=min l.length 100:=⟨_,rfl⟩
 have hm1:m<=100:=by omega
 have HA:Ll ((oQ l m).acts=m):=aa (ur l m hm1 (by omega));have hmin:min (l.length:Int) 100=(m:Int):=by omega
 rw[<-hm]at L2;clear hm;obtain⟨st,hst⟩:∃ st,st=oQ l m:=⟨_,rfl⟩
 rw[<-hst]at L2 HA;clear hst;go_wp2_with fail
 have J0:Ll (iH W1 w2 S v2 { st with acts:=((m:Nat):Int) }):=aa (by have h9:=L2.o;rw[show ({ st with acts:=((m:Nat):Int) }:ex)=st from by rw[<-HA.o]];exact h9);clear L2 HA PL;go_loopg [7] (300 - m) (fun gk iv wr=>∃ k:Nat,k<=300/\gk=300 - k/\iv=.int .i64 k/\∃ v9,Ll (iH W1 wr S v9 { st with acts:=((k:Nat):Int) }))
 case atStart=>exact⟨m,by omega,rfl,by first | rfl | (rw[<-hmin];rfl) | simp[hmin],v2,J0⟩
 case round=>
  obtain⟨k,hk,hgk,rfl,v9,J⟩:=hrel;have GK:=aa hgk;clear hgk J0;by_cases hlt:k < 300
  ·have k1:(k:Int) < 300:=by omega
   have wk:IntKind.i64.wrap ((k:Int)+1)=(k:Int)+1:=by rw[IntKind.wrap_i64];omega
   have DO:=jy J.o Kg (by decide) (by decide) (by decide);rw[Iy (by simp only;omega) Kg rfl]at DO;simp only[bz]at DO;have DOZ:=aa DO;clear DO;have hfld:∀ W,(Instr.field 31 (.agg #[.int .i64 9,.int .i64 0,.string ⟨#[]⟩]) 0).run prog W=.ok (.int .i64 9) W:=fun W=>by first | rfl | kernel_rfl | (simp[Instr.field,go_sem];done) | (simp[Instr.field,go_sem];rfl)
   go_wp2_with (go_at_call 14;refine DOZ.o.mono ?_;rintro e w4 ⟨v4,rfl,p1,p2,p3⟩;have L4:=aa p1;clear p1 p2 p3)
   go_roundg (300 - (k+1))
   case measure=>rw[GK.o];omega
   case rel=>exact⟨k+1,by omega,rfl,by go_num,v4,L4⟩
  ·have k1:¬(k:Int) < 300:=by omega
   obtain rfl:k=300:=by omega
   have TH2:=aa (fl J.o);go_upto_region 10 with (go_at_call 11;refine TH2.o.mono ?_;rintro e w3 ⟨rfl,p1,p2,p3⟩;have T3:=aa p1;have L3:=aa p2;have B3:=aa p3;clear p1 p2 p3)
   have q0_:=(AB.o.bel L3.o.bel).c;have DO:=jy L3.o q HQ.o.1 HQ.o.2.1 HQ.o.2.2;rw[Hg (by rfl) q]at DO;simp only[bz]at DO;have DOF:=aa DO;have NC:=aa (vU J.o.good);clear DO;go_wp2_with (first
    |(go_at_call 14;refine DOF.o.mono ?_;rintro e w5 ⟨v5,rfl,p1,p2,p3⟩;have L5:=aa p1;have T5:=aa (vX (w:=wr) T3.o (MG _) p2 J.o.srv.blk.lt (fun r hr=>(J.o.srv.ne hr).2));have TH5:=aa (fl p1);clear p1 p2 p3)
    |(go_at_call 11;refine TH5.o.mono ?_;rintro e w7 ⟨rfl,p1,p2,p3⟩;have L7:=aa p2;have SM:=aa (li w7 _ _ st.ths _ _ (T5.o.bel p3) p1.ths NC.o);clear p1 p2 p3)
    |(go_at_call 10;refine SM.o.mono ?_;rintro e w8 ⟨rfl,p1⟩;have L8:=aa (L7.o.more p1);clear p1))
   go_ret;exact⟨rfl,ab Y1.o L8.o.bel⟩
end Go.Proofs.YtkjeiljdoljjgaaGreatDoor
namespace Go.Proofs.YtkjeiljdoljjgaaGreatDoor.topEnds
open Go.ChangeShapes Go.WideShapes Go.ChangeAt Go.RowKit
open Go.ChangeMaps (open_string shut_string)
theorem mf(H:Type)(enc:TypeId × Value->H)(W:World)(base:Nat)(args:Array Value)(ds gs:List (DataW H))(before:List MemPlace)(hval:∀ (j:Nat) t v,Tryz.f6.params[j]?=some t->args[j]?=some v->Value.okWide Tryz.prog W .any base t v)(hW:DataW.Whole enc Tryz.prog Tryz.f6.params.toList Rows.topEndsSpec.vars false W args.toList ds gs before)(hZ:(DataW.weightsEach Tryz.prog (Tryz.f6.params.toList++(OpenSpec.ofChange Rows.topEndsSpec).bare.plain.varTypes Tryz.prog) (ds++gs)).all (·<=reachBytes)=true)(hL:laidMet Tryz.prog lS W)(hS:W.ShapedOpen Tryz.prog):Calls Tryz.prog 6 args W fun e W'=>∃ v,e=.returned v/\Rows.topEndsSpec.post enc Tryz.prog Tryz.f6 false true false false W args v W':=by
 have hW':=hW;obtain⟨p,q,hA0,hV,rfl,hfz,hnd⟩:=hW;have hA:DataW.TrodAll enc Tryz.prog W 0 (fun _=>true) true Tryz.f6.params.toList args.toList ds p:=hA0;rw[Tryz.params6]at hA hval;obtain⟨v0,vs0,d0,ds0,p0,q0,hargs0,rfl,rfl,h0,r0⟩:=trodAll_cons hA;obtain⟨v1,vs1,d1,ds1,p1,q1,hargs1,rfl,rfl,h1,r1⟩:=trodAll_cons r0;obtain⟨rfl,rfl,rfl⟩:=trodAll_nil r1;subst hargs1;have hargs:args=#[v0,v1]:=by
  obtain⟨l⟩:=args;exact congrArg Array.mk hargs0
 subst hargs;obtain⟨rfl,rfl⟩:=trodVars_none hV;have k0:Value.okWide Tryz.prog W .any base 22 v0:=hval 0 _ _ (by simp) (by simp);have k1:Value.okWide Tryz.prog W .any base 28 v1:=hval 1 _ _ (by simp) (by simp);obtain⟨os0,hv0⟩:=uV k0 h0;obtain⟨q1,eq1,hv1⟩:=ww k1 h1;clear hA0;simp only[List.append_nil]at hW';have walk:=topEnds_at W os0 v0 q1 hv0 hv1 (um hL) (zS hS) (sf hL);rw[<-eq1]at walk;refine walk.mono fun e W' ⟨he,hg⟩=>?_;subst he;have ef:Rows.topEndsSpec.fn H ([d0,d1]++[])={ results:=[.lit (.bool true)],args:=[d0,d1] }:=rfl;refine⟨_,rfl,_,_,_,[],(p0++(p1++[])),[],hW',?_,?_,?_,hg.frame _,fun h=>by cases h⟩
 ·rw[ef];exact trodAll_mk1 (shut_bool Tryz.underlying4 _)
 ·rw[ef,Tryz.params6];exact trodAll_cons_mk (Below.trod oI pr Al h0 hg (lK h0)) (trodAll_cons_mk (Below.trod oI pM Ap h1 hg (lK h1)) (trodAll_mk0))
 ·rw[ef];rfl
theorem sd(os:Os){H:Type}(enc:TypeId × Value->H):∃ places,DataW.whole enc Tryz.prog ((kr os).forCall (fun _ _=>0) ⟨#[],#[.slice none 0 0,.agg #[.int .i64 0,.string ⟨#[]⟩,.string ⟨#[]⟩,.string ⟨#[]⟩,.int .i64 0,.int .i64 0,.int .i64 0,.bool false]],[]⟩).memory Tryz.f6.params.toList Rows.topEndsSpec.vars false #[Value.slice none 0 0,Value.agg #[.int .i64 0,.string ⟨#[]⟩,.string ⟨#[]⟩,.string ⟨#[]⟩,.int .i64 0,.int .i64 0,.int .i64 0,.bool false]].toList 8=some ([.nil,.agg [.lit (.int .i64 0),.lit (.string []),.lit (.string []),.lit (.string []),.lit (.int .i64 0),.lit (.int .i64 0),.lit (.int .i64 0),.lit (.bool false)]],[],places):=
 ⟨[],by kernel_rfl⟩
theorem xX(os:Os)(started:os.Started)(H:Type)(enc:TypeId × Value->H)(F:Stop.Interp):ReturnsInHanded {} Tryz.checked os 6 .any ((OpenSpec.ofChange Rows.topEndsSpec).preRow enc Tryz.prog Tryz.f6 Rows.topEndsRow.domain false Rows.topEndsRow.laid) (((OpenSpec.ofChange Rows.topEndsSpec).at F).post enc Tryz.prog Tryz.f6 false true false false):=by
 obtain⟨places,hx⟩:=sd os enc;refine returnsInHanded_of_row (C:=Tryz.checked) (s:=OpenSpec.ofChange Rows.topEndsSpec) own started (by kernel_rfl) Tryz.func6
  (witness_row_at (enc:=enc) (C:=Tryz.checked) false (kr os) #[.slice none 0 0,.agg #[.int .i64 0,.string ⟨#[]⟩,.string ⟨#[]⟩,.string ⟨#[]⟩,.int .i64 0,.int .i64 0,.int .i64 0,.bool false]] rfl (by kernel_rfl) (by kernel_rfl) (by kernel_rfl)
   (OpenSpec.preRow_of_cond 8 hx (by kernel_rfl) (fun k hk=>by cases hk) (by kernel_rfl) (Af os _))) ?_
 intro W base args ds gs before hval hW _ _ hZ hL hS _;exact mf H enc W base args ds gs before hval hW hZ hL hS
theorem iZ:Rows.TopEndsSaid:=
 OpenClaim.holds_of_cond 6 Tryz.f6 rfl rfl rfl rfl rfl rfl rfl ⟨rfl,rfl,rfl,rfl,rfl⟩ rfl rfl rfl rfl rfl (by kernel_rfl) Tryz.func6 (by kernel_rfl)
  (of_decide_eq_true (by kernel_rfl)) (by unfold Func.isWrapper;first | (rw[if_pos (by decide +kernel)];kernel_rfl) | (rw[if_neg (by decide +kernel)];exact⟨rfl,rfl⟩))
  (fun os started H enc _ F=>by rw[OpenClaim.pre_eq_preRow];exact xX os started H enc F)
theorem nD(f:FuncId)(fn:Func)(hf:Tryz.pinned.checked.prog.funcNamed "stairwell/stairwelltop.TopEnds"=some f)(hfn:Tryz.pinned.checked.prog.funcs[f]?=some fn):true=Tryz.pinned.checked.prog.looks []/\∀ (j:Nat) t,fn.params[j]?=some t->Tryz.pinned.checked.prog.wantsStandIn t=false:=by
 obtain rfl:f=6:=Option.some.inj ((show Tryz.prog.funcNamed "stairwell/stairwelltop.TopEnds"=some 6 by kernel_rfl).symm.trans hf) |>.symm
 obtain rfl:fn=Tryz.f6:=(Option.some.inj (Tryz.func6.symm.trans hfn)).symm;refine⟨by kernel_rfl,fun j t ht=>?_⟩;rw[Tryz.params6]at ht;have hm:=Array.mem_of_getElem? ht;simp only[Array.mem_def,List.mem_cons,List.not_mem_nil,or_false]at hm;rcases hm with rfl | rfl
 ·exact(show Tryz.prog.wantsStandIn 22=false by kernel_rfl)
 ·exact(show Tryz.prog.wantsStandIn 28=false by kernel_rfl)
theorem card:Rows.TopEndsCardSaid:=
 Claim7.holds_tied_plain_at .later [] _ _ _ _ iZ (fun _ h=>by cases h) (by kernel_rfl) (fun _ h=>by cases h) topEnds_row_tie rfl ⟨rfl,rfl⟩ (by kernel_rfl) rfl nD (by kernel_rfl)
end Go.Proofs.YtkjeiljdoljjgaaGreatDoor.topEnds
