/- What JsonOnce of package stairwellkeep answers. -/
import Derived.Test.YtkmonpdppgcgaaaDoorUb
import Derived.Test.YtkmonpdppgcgaaaDoorJa
set_option linter.unusedSimpArgs false
set_option linter.unusedVariables false
namespace Go.Proofs.YtkmonpdppgcgaaaDoor
open Go.RowKit

/- The cells of a value. -/
def box5 (t : V) (a7 a8 : Option Addr) (c7 c8 : Nat) : Obj := .cells #[.int .i64 t.kind, .int .i64 t.n, .string ⟨t.s.toArray⟩, .slice a7 t.keys.length c7, .slice a8 t.l.length c8] 25
theorem VIs.dep {w : World} {ok : Nat → Prop} (d : Nat) : ∀ {t : V} {v : Value}, VIs w ok d t v → Dep d t := by
  induction d with
  | zero => intro t v h; exact h
  | succ d ih =>
    intro t v h x hx
    obtain ⟨ks, ls, e, h1, h2, h3, h4, h5⟩ := h
    obtain ⟨y, hy⟩ := vals_mem h5 hx
    exact ih hy
theorem printR_good {d : Nat} {t : V} (h : goodV t = true) : printR d t = (printS d t, 0) ∧ (printS d t).length ≤ 2000 ∨ printR d t = ([], 2) := by
  unfold printR
  rw [if_pos h]
  split
  · rename_i h1; exact .inl ⟨rfl, h1⟩
  · exact .inr rfl

set_option maxRecDepth 100000 in
set_option maxHeartbeats 4000000 in
theorem once_law (w : World) (s : List UInt8) (hs : s.length ≤ 140737488351232) (hG : Glob w) :
    Calls Tryd.prog 6 #[str s] w fun e w' => e = .returned (.bool true) ∧ Below w.heap.size w w' := by
  have HS : Hid (s.length ≤ maxLen) := hidI (by unfold maxLen; omega)
  have HG := hidI hG
  clear hG
  unfold str
  go_enter Tryd.func6, Tryd.ntmps6
  go_wp2_with fail
  refine (parse_at _ s HS.out (by exact HG.out)).mono ?_
  rintro e w1 ⟨t, ee, a7, a8, c7, c8, rfl, hp, hv, hb⟩
  have HV := hidI hv
  have HB := hidI hb
  have B1 : Hid (BoxIs (w1.alloc (.cells #[.int .i64 t.kind, .int .i64 t.n, .string ⟨t.s.toArray⟩, .slice a7 t.keys.length c7, .slice a8 t.l.length c8] 25)) w1.heap.size (.int .i64 t.kind) (.int .i64 t.n) (.string ⟨t.s.toArray⟩) (.slice a7 t.keys.length c7) (.slice a8 t.l.length c8)) := hidI (heap_alloc_new w1 _)
  have V1 : Hid (VIs (w1.alloc (.cells #[.int .i64 t.kind, .int .i64 t.n, .string ⟨t.s.toArray⟩, .slice a7 t.keys.length c7, .slice a8 t.l.length c8] 25)) (fun k => w.heap.size ≤ k) 2003 t (.agg #[.int .i64 t.kind, .int .i64 t.n, .string ⟨t.s.toArray⟩, .slice a7 t.keys.length c7, .slice a8 t.l.length c8])) := hidI (hv.bel (bel_alloc _ _))
  have BB : Hid (Below w.heap.size w (w1.alloc (.cells #[.int .i64 t.kind, .int .i64 t.n, .string ⟨t.s.toArray⟩, .slice a7 t.keys.length c7, .slice a8 t.l.length c8] 25))) := hidI (bel_trans hb (bel_alloc _ _))
  have G1 : Hid (Glob (w1.alloc (.cells #[.int .i64 t.kind, .int .i64 t.n, .string ⟨t.s.toArray⟩, .slice a7 t.keys.length c7, .slice a8 t.l.length c8] 25))) := hidI (HG.out.grown (gb_below (r := none) BB.out) (by simp))
  clear hv hb HV HB
  rcases parseS_cases s with ⟨t', ht⟩ | ⟨er, her, ht⟩
  · rw [ht] at hp
    simp only [Prod.mk.injEq] at hp
    obtain ⟨e5, e6⟩ := hp
    subst e5
    subst e6
    have GD := hidI (parseS_good ht)
    clear ht
    go_wp2_with fail
    refine (reads_at _ (by exact G1.out)).mono ?_
    rintro e w2 ⟨rfl, hb2⟩
    have B2 : Hid (BoxIs w2 w1.heap.size (.int .i64 t'.kind) (.int .i64 t'.n) (.string ⟨t'.s.toArray⟩) (.slice a7 t'.keys.length c7) (.slice a8 t'.l.length c8)) := hidI (box_bel hb2 B1.out)
    have V2 : Hid (VIs w2 (fun k => w.heap.size ≤ k) 2003 t' (.agg #[.int .i64 t'.kind, .int .i64 t'.n, .string ⟨t'.s.toArray⟩, .slice a7 t'.keys.length c7, .slice a8 t'.l.length c8])) := hidI (V1.out.bel hb2)
    have BB2 : Hid (Below w.heap.size w w2) := hidI (bel_trans BB.out hb2)
    have G2 : Hid (Glob w2) := hidI (HG.out.grown (gb_below (r := none) BB2.out) (by simp))
    clear hb2 B1 V1 BB G1
    obtain ⟨x0, x1, x2, x3, x4, -⟩ := B2.out.c
    go_wp2_with fail
    refine (Print_at _ _ 2003 t' _ (by exact V2.out) (by exact G2.out)).mono ?_
    rintro e w3 ⟨l, ef, rfl, hq, hb3⟩
    have B3 : Hid (BoxIs w3 w1.heap.size (.int .i64 t'.kind) (.int .i64 t'.n) (.string ⟨t'.s.toArray⟩) (.slice a7 t'.keys.length c7) (.slice a8 t'.l.length c8)) := hidI (box_bel hb3 B2.out)
    have V3 : Hid (VIs w3 (fun k => w.heap.size ≤ k) 2003 t' (.agg #[.int .i64 t'.kind, .int .i64 t'.n, .string ⟨t'.s.toArray⟩, .slice a7 t'.keys.length c7, .slice a8 t'.l.length c8])) := hidI (V2.out.bel hb3)
    have BB3 : Hid (Below w.heap.size w w3) := hidI (bel_trans BB2.out hb3)
    have G3 : Hid (Glob w3) := hidI (HG.out.grown (gb_below (r := none) BB3.out) (by simp))
    clear hb3 B2 V2 BB2 G2 x0 x1 x2 x3 x4
    obtain ⟨x0, x1, x2, x3, x4, -⟩ := B3.out.c
    rcases printR_good (d := 2003) GD.out with ⟨h1, h2⟩ | h1
    · rw [h1] at hq
      simp only [Prod.mk.injEq] at hq
      obtain ⟨e7, e8⟩ := hq
      have e9 : l.length ≤ 2000 := by rw [← e7]; exact h2
      have PP : Hid (parseS l = (t', 0)) := hidI (by rw [← e7]; exact parse_print GD.out 2003 V3.out.dep h2)
      have PQ : Hid (printR 2003 t' = (l, 0)) := hidI (by rw [h1, e7])
      clear h1 h2 e7
      subst e8
      go_wp2_with fail
      refine (parse_at _ l (by unfold maxLen; omega) (by exact G3.out)).mono ?_
      rintro e w4 ⟨t2, ee2, a72, a82, c72, c82, rfl, hp2, hv4, hb4⟩
      rw [PP.out] at hp2
      simp only [Prod.mk.injEq] at hp2
      obtain ⟨e5, e6⟩ := hp2
      subst e5
      subst e6
      have B4 : Hid (BoxIs (w4.alloc (.cells #[.int .i64 t'.kind, .int .i64 t'.n, .string ⟨t'.s.toArray⟩, .slice a72 t'.keys.length c72, .slice a82 t'.l.length c82] 25)) w1.heap.size (.int .i64 t'.kind) (.int .i64 t'.n) (.string ⟨t'.s.toArray⟩) (.slice a7 t'.keys.length c7) (.slice a8 t'.l.length c8)) := hidI (box_bel (bel_alloc _ _) (box_bel hb4 B3.out))
      have C4 : Hid (BoxIs (w4.alloc (.cells #[.int .i64 t'.kind, .int .i64 t'.n, .string ⟨t'.s.toArray⟩, .slice a72 t'.keys.length c72, .slice a82 t'.l.length c82] 25)) w4.heap.size (.int .i64 t'.kind) (.int .i64 t'.n) (.string ⟨t'.s.toArray⟩) (.slice a72 t'.keys.length c72) (.slice a82 t'.l.length c82)) := hidI (heap_alloc_new w4 _)
      have V4 : Hid (VIs (w4.alloc (.cells #[.int .i64 t'.kind, .int .i64 t'.n, .string ⟨t'.s.toArray⟩, .slice a72 t'.keys.length c72, .slice a82 t'.l.length c82] 25)) (fun k => w.heap.size ≤ k) 2003 t' (.agg #[.int .i64 t'.kind, .int .i64 t'.n, .string ⟨t'.s.toArray⟩, .slice a7 t'.keys.length c7, .slice a8 t'.l.length c8])) := hidI ((V3.out.bel hb4).bel (bel_alloc _ _))
      have U4 : Hid (VIs (w4.alloc (.cells #[.int .i64 t'.kind, .int .i64 t'.n, .string ⟨t'.s.toArray⟩, .slice a72 t'.keys.length c72, .slice a82 t'.l.length c82] 25)) (fun k => w3.heap.size ≤ k) 2003 t' (.agg #[.int .i64 t'.kind, .int .i64 t'.n, .string ⟨t'.s.toArray⟩, .slice a72 t'.keys.length c72, .slice a82 t'.l.length c82])) := hidI (hv4.bel (bel_alloc _ _))
      have BB4 : Hid (Below w.heap.size w (w4.alloc (.cells #[.int .i64 t'.kind, .int .i64 t'.n, .string ⟨t'.s.toArray⟩, .slice a72 t'.keys.length c72, .slice a82 t'.l.length c82] 25))) := hidI (bel_trans BB3.out (bel_trans hb4 (bel_alloc _ _)))
      have G4 : Hid (Glob (w4.alloc (.cells #[.int .i64 t'.kind, .int .i64 t'.n, .string ⟨t'.s.toArray⟩, .slice a72 t'.keys.length c72, .slice a82 t'.l.length c82] 25))) := hidI (HG.out.grown (gb_below (r := none) BB4.out) (by simp))
      clear hv4 hb4 B3 V3 BB3 G3 x0 x1 x2 x3 x4
      obtain ⟨x0, x1, x2, x3, x4, -⟩ := B4.out.c
      obtain ⟨y0, y1, y2, y3, y4, -⟩ := C4.out.c
      go_wp2_with fail
      refine (Print_at _ _ 2003 t' _ (by exact U4.out) (by exact G4.out)).mono ?_
      rintro e w5 ⟨l2, ef2, rfl, hq2, hb5⟩
      rw [PQ.out] at hq2
      simp only [Prod.mk.injEq] at hq2
      obtain ⟨e7, e8⟩ := hq2
      subst e7
      subst e8
      have B5 := hidI (box_bel hb5 B4.out)
      have C5 := hidI (box_bel hb5 C4.out)
      have V5 := hidI (V4.out.bel hb5)
      have U5 := hidI (U4.out.bel hb5)
      have BB5 := hidI (bel_trans BB4.out hb5)
      have SR := hidI (sameS_refl 2003 V5.out)
      have es : (ByteArray.mk l.toArray == ByteArray.mk l.toArray) = true := ba_eq rfl
      clear hb5 B4 C4 V4 U4 BB4 G4 x0 x1 x2 x3 x4 y0 y1 y2 y3 y4
      obtain ⟨x0, x1, x2, x3, x4, -⟩ := B5.out.c
      obtain ⟨y0, y1, y2, y3, y4, -⟩ := C5.out.c
      go_wp2_with fail
      refine (same_all 2003 _ _ _ t' t' _ _ (by exact V5.out) (by exact U5.out)).mono ?_
      rintro e w6 ⟨rfl, hb6⟩
      rw [SR.out]
      have HB6 := hidI hb6
      clear hb6
      go_wp2_with fail
      go_ret
      exact ⟨rfl, bel_trans BB5.out HB6.out⟩
    · rw [h1] at hq
      simp only [Prod.mk.injEq] at hq
      obtain ⟨e7, e8⟩ := hq
      clear h1
      subst e7
      subst e8
      go_wp2_with fail
      refine (Good_at _ _ 2003 t' _ (by exact V3.out)).mono ?_
      rintro e w4 ⟨rfl, hb4⟩
      rw [GD.out]
      have HB4 := hidI hb4
      clear hb4
      go_wp2_with fail
      go_ret
      exact ⟨rfl, bel_trans BB3.out HB4.out⟩
  · rw [ht] at hp
    simp only [Prod.mk.injEq] at hp
    obtain ⟨e5, e6⟩ := hp
    subst e6
    have SR := hidI (sameS_refl 2003 V1.out)
    have L0 : Hid (VIs (w1.alloc (.cells #[.int .i64 t.kind, .int .i64 t.n, .string ⟨t.s.toArray⟩, .slice a7 t.keys.length c7, .slice a8 t.l.length c8] 25)) (fun k => w.heap.size ≤ k) 2003 t (.agg #[.int .i64 0, .int .i64 0, .string ⟨#[]⟩, .slice none 0 0, .slice none 0 0])) := hidI (by
      rw [← e5]; exact leaf_is _ _ 2002 0 0 [] (by unfold I64; omega) (by unfold I64; omega) (by simp))
    clear e5 ht
    obtain ⟨x0, x1, x2, x3, x4, -⟩ := B1.out.c
    have hne : (er != 0) = true := by rcases her with rfl | rfl <;> rfl
    have heq : (er == 0) = false := by rcases her with rfl | rfl <;> rfl
    clear her
    go_wp2_with fail
    refine (same_all 2003 _ _ _ t t _ _ (by exact V1.out) (by exact L0.out)).mono ?_
    rintro e w3 ⟨rfl, hb3⟩
    rw [SR.out]
    have HB3 := hidI hb3
    have HG3 : Hid (Glob w3) := hidI (G1.out.grown (gb_below (r := none) hb3) (by simp))
    clear hb3
    go_wp2_with fail
    refine (reads_at _ (by exact HG3.out)).mono ?_
    rintro e w4 ⟨rfl, hb4⟩
    have HB4 := hidI hb4
    clear hb4
    go_wp2_with fail
    go_ret
    exact ⟨rfl, bel_trans BB.out (bel_trans HB3.out HB4.out)⟩
end Go.Proofs.YtkmonpdppgcgaaaDoor
