import Derived.Test.YtkjeiljdoljjgaaGreatDoorG1
import Derived.Deep.Slices
set_option maxRecDepth 100000
set_option maxHeartbeats 40000000
set_option linter.unusedSimpArgs false
set_option linter.unusedVariables false
namespace Go.Proofs.YtkjeiljdoljjgaaGreatDoor
open Go.RowKit
open _root_.Go.Proofs.Tryz
section
open Go.ChangeShapes Go.WideShapes Go.ChangeAt Go.RowKit
theorem oI:laidOutB Tryz.prog=true:=by kernel_rfl
theorem sg{w:World}{a:Addr}{v:Value}(h:w.cell? a=some v):a.spot=none:=by
 unfold World.cell? at h;split at h
 ·split at h
  ·cases h
  ·rename_i hs;simpa using hs
 ·cases h
theorem qv{a:Addr}(h:a.spot=none):a=⟨a.block,a.off,none⟩:=by
 obtain⟨b,o,s⟩:=a;simp only at h;subst h;rfl
theorem lK{H:Type}{enc:TypeId × Value->H}{W:World}{t:TypeId}{v:Value}{d:DataW H}{p:List MemPlace}(h:DataW.Trod enc Tryz.prog W 0 (fun _=>true) true t v d p):∀ x∈p,x.block < W.heap.size:=by
 obtain⟨f,hf⟩:=h;exact DataW.trod_lt f t _ _ hf
end
section
open Go.ChangeShapes Go.WideShapes Go.ChangeAt Go.RowKit
theorem zS{W:World}(h:W.ShapedOpen Tryz.prog):bj W:=
 cell_of_shapedOpen_int (t:=3) (zero:=#[.int .i64 0]) h (of_decide_eq_true (by kernel_rfl)) (by kernel_rfl) rfl (by kernel_rfl) (by kernel_rfl) Tryz.underlying3
end
theorem Jg{w2 v1 v3 n1 n3 N cs1 cs3}(key)(s1:du w2 1 v1 n1 cs1)(s3:du w2 1 v3 n3 cs3)(hN:n1+1+n3=N)(hn:N<=1000000)(W)(e1:W.heap=((w2.alloc (.cells #[.string key] 9)).alloc (.cells #[v1,.slice (some ⟨w2.heap.size,0,none⟩) 1 1,v3] 32)).heap)(e2:W.os=w2.os)(e3:W.tape=w2.tape)(e4:W.output=w2.output):Calls prog 198 #[.slice (some ⟨w2.heap.size+1,0,none⟩) 3 3] W fun e w'=>∃ g cap,e=.returned (.slice (some ⟨g,0,none⟩) N cap)/\w'.ownsRow w2.heap.size 9 1 (.slice (some ⟨g,0,none⟩) N cap) N (cs1++[.string key]++cs3)/\La w2 w':=by
 have LY:La w2 W:=by
  have:=ab (ae w2 (.cells #[.string key] 9)) (ae _ (.cells #[v1,.slice (some ⟨w2.heap.size,0,none⟩) 1 1,v3] 32));exact⟨e2,e3,e4,by rw[e1];exact this.size,fun k hk=>by rw[e1];exact this.block k hk⟩
 have ha:=fb w2 (.cells #[.string key] 9) (.cells #[v1,.slice (some ⟨w2.heap.size,0,none⟩) 1 1,v3] 32);have hb:=et w2 (.cells #[.string key] 9) (.cells #[v1,.slice (some ⟨w2.heap.size,0,none⟩) 1 1,v3] 32);rw[<-e1]at ha hb;refine(Ew W (w2.heap.size+1) ⟨v1,n1,cs1⟩ ⟨_,1,_⟩ ⟨v3,n3,cs3⟩ (by simp[World.cell?,hb]) (by simp[World.cell?,hb]) (by simp[World.cell?,hb]) (s1.bel LY) (Kp ha rfl) (s3.bel LY) (by simp only;omega)).mono ?_;rintro e w' ⟨v,rfl,ho,hb9⟩;simp only at ho;rw[hN]at ho;have ho':=cV ho LY.size;rcases ho'.2 with⟨_,h0⟩ | ⟨g,cap,cur,e,rest⟩
 ·omega
 ·subst e;exact⟨g,cap,rfl,ho',ab LY hb9⟩
theorem EJ{w2 v1 v3 n1 n3 N cs1 cs3}(k n s a7 a8 l7 c7 l8 c8)(s1:du w2 5 v1 n1 cs1)(s3:du w2 5 v3 n3 cs3)(hN:n1+1+n3=N)(hn:N<=1000000)(W)(e1:W.heap=((w2.alloc (.cells #[.int .i64 k,.int .i64 n,.string s,.slice a7 l7 c7,.slice a8 l8 c8] 35)).alloc (.cells #[v1,.slice (some ⟨w2.heap.size,0,none⟩) 1 1,v3] 33)).heap)(e2:W.os=w2.os)(e3:W.tape=w2.tape)(e4:W.output=w2.output):Calls prog 197 #[.slice (some ⟨w2.heap.size+1,0,none⟩) 3 3] W fun e w'=>∃ g cap,e=.returned (.slice (some ⟨g,0,none⟩) N cap)/\w'.ownsRow w2.heap.size 35 5 (.slice (some ⟨g,0,none⟩) N cap) N (cs1++[.int .i64 k,.int .i64 n,.string s,.slice a7 l7 c7,.slice a8 l8 c8]++cs3)/\La w2 w':=by
 have LY:La w2 W:=by
  have:=ab (ae w2 (.cells #[.int .i64 k,.int .i64 n,.string s,.slice a7 l7 c7,.slice a8 l8 c8] 35)) (ae _ (.cells #[v1,.slice (some ⟨w2.heap.size,0,none⟩) 1 1,v3] 33));exact⟨e2,e3,e4,by rw[e1];exact this.size,fun k hk=>by rw[e1];exact this.block k hk⟩
 have ha:=fb w2 (.cells #[.int .i64 k,.int .i64 n,.string s,.slice a7 l7 c7,.slice a8 l8 c8] 35) (.cells #[v1,.slice (some ⟨w2.heap.size,0,none⟩) 1 1,v3] 33);have hb:=et w2 (.cells #[.int .i64 k,.int .i64 n,.string s,.slice a7 l7 c7,.slice a8 l8 c8] 35) (.cells #[v1,.slice (some ⟨w2.heap.size,0,none⟩) 1 1,v3] 33);rw[<-e1]at ha hb;refine(vB W (w2.heap.size+1) ⟨v1,n1,cs1⟩ ⟨_,1,_⟩ ⟨v3,n3,cs3⟩ (by simp[World.cell?,hb]) (by simp[World.cell?,hb]) (by simp[World.cell?,hb]) (s1.bel LY) (Gj ha (Ji _ _ _ _ _ _ _ _ _)) (s3.bel LY) (by simp only;omega)).mono ?_;rintro e w' ⟨v,rfl,ho,hb9⟩;simp only at ho;rw[hN]at ho;have ho':=cV ho LY.size;rcases ho'.2 with⟨_,h0⟩ | ⟨g,cap,cur,e,rest⟩
 ·omega
 ·subst e;exact⟨g,cap,rfl,ho',ab LY hb9⟩
section
open Go.ChangeShapes Go.WideShapes Go.ChangeAt Go.RowKit
def lS:List (String × DataW Unit):=[("math/bits.deBruijn32tab",Rows.laid_math_bits_deBruijn32tab),("math/bits.deBruijn64tab",Rows.laid_math_bits_deBruijn64tab),("internal/strconv.uint64pow10",Rows.laid_internal_strconv_uint64pow10),("unicode/utf8.acceptRanges",Rows.laid_unicode_utf8_acceptRanges),("strconv.ErrRange",Rows.laid_strconv_ErrRange),("strconv.ErrSyntax",Rows.laid_strconv_ErrSyntax),("stairwell/patch.words",Rows.laid_stairwell_patch_words),("unicode/utf8.first",Rows.laid_unicode_utf8_first)]
def C4:DataW Unit->Array Value
 | .agg l=>(l.map fun | .lit (.string s)=>Value.string ⟨s.toArray⟩ | _=>.string ⟨#[]⟩).toArray
 | _=>#[]
noncomputable def kr (os:Os):World:=
 let w0:=World.holding Tryz.prog os ⟨#[.cells #[Aw Rows.laid_strconv_ErrRange] 284,.cells #[Aw Rows.laid_strconv_ErrSyntax] 284],#[],[]⟩
 { w0 with heap:=nF (nF (nF (nF (nF (nF (nF (nF w0.heap 3 (pu Rows.laid_math_bits_deBruijn32tab)) 4 (pu Rows.laid_math_bits_deBruijn64tab)) 1 (pu Rows.laid_internal_strconv_uint64pow10))
  8 (sE Rows.laid_unicode_utf8_acceptRanges)) 6 #[.iface 282 (.pointer (some ⟨low,0,none⟩))]) 5 #[.iface 282 (.pointer (some ⟨low+1,0,none⟩))])
  2 (C4 Rows.laid_stairwell_patch_words)) 7 (sE Rows.laid_unicode_utf8_first) }
theorem Af(os:Os)(args:Array Value):laidMet Tryz.prog lS ((kr os).forCall (fun _ _=>0) ⟨#[],args,[]⟩).memory:=
 laidMet_of_run' 8 (by kernel_rfl) (by kernel_rfl)
end
end Go.Proofs.YtkjeiljdoljjgaaGreatDoor
