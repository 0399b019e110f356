/- What JsonBack of package stairwellkeep answers. -/
import Derived.Test.YtkmonpdppgcgaaaDoorTb
set_option linter.unusedSimpArgs false
set_option linter.unusedVariables false
namespace Go.Proofs.YtkmonpdppgcgaaaDoor
open Go.RowKit

set_option maxRecDepth 100000 in
set_option maxHeartbeats 4000000 in
theorem back_law (w : World) (ok : Nat → Prop) (d : Nat) (t : V) (v : Value) (h : VIs w ok d t v) (hG : Glob w) :
    Calls Tryd.prog 5 #[v] w fun e w' => e = .returned (.bool true) ∧ Below w.heap.size w w' := by
  obtain ⟨a7, a8, c7, c8, rfl⟩ := h.shape
  have HG := hidI hG
  have DP := hidI h.dep
  have B1 : Hid (BoxIs (w.alloc (.cells #[.int .i64 t.kind, .int .i64 t.n, .string ⟨t.s.toArray⟩, .slice a7 t.keys.length c7, .slice a8 t.l.length c8] 25)) w.heap.size (.int .i64 t.kind) (.int .i64 t.n) (.string ⟨t.s.toArray⟩) (.slice a7 t.keys.length c7) (.slice a8 t.l.length c8)) := hidI (heap_alloc_new w _)
  have V1 : Hid (VIs (w.alloc (.cells #[.int .i64 t.kind, .int .i64 t.n, .string ⟨t.s.toArray⟩, .slice a7 t.keys.length c7, .slice a8 t.l.length c8] 25)) ok d t (.agg #[.int .i64 t.kind, .int .i64 t.n, .string ⟨t.s.toArray⟩, .slice a7 t.keys.length c7, .slice a8 t.l.length c8])) := hidI (h.bel (bel_alloc _ _))
  have BB : Hid (Below w.heap.size w (w.alloc (.cells #[.int .i64 t.kind, .int .i64 t.n, .string ⟨t.s.toArray⟩, .slice a7 t.keys.length c7, .slice a8 t.l.length c8] 25))) := hidI (bel_alloc _ _)
  have G1 : Hid (Glob (w.alloc (.cells #[.int .i64 t.kind, .int .i64 t.n, .string ⟨t.s.toArray⟩, .slice a7 t.keys.length c7, .slice a8 t.l.length c8] 25))) := hidI (HG.out.grown (gb_below (r := none) BB.out) (by simp))
  clear h hG
  obtain ⟨x0, x1, x2, x3, x4, -⟩ := B1.out.c
  go_enter Tryd.func5, Tryd.ntmps5
  go_wp2_with fail
  refine (Print_at _ _ d t _ (by exact V1.out) (by exact G1.out)).mono ?_
  rintro e w2 ⟨l, ee, rfl, hq, hb2⟩
  have B2 := hidI (box_bel hb2 B1.out)
  have V2 := hidI (V1.out.bel hb2)
  have BB2 := hidI (bel_trans BB.out hb2)
  have G2 : Hid (Glob w2) := hidI (HG.out.grown (gb_below (r := none) BB2.out) (by simp))
  clear hb2 B1 V1 BB G1 x0 x1 x2 x3 x4
  obtain ⟨x0, x1, x2, x3, x4, -⟩ := B2.out.c
  cases hgd : goodV t with
  | false =>
    have h1 : printR d t = ([], 1) := by unfold printR; rw [hgd]; rfl
    rw [h1] at hq
    simp only [Prod.mk.injEq] at hq
    obtain ⟨e7, e8⟩ := hq
    clear h1
    subst e7
    subst e8
    have GD := hidI hgd
    clear hgd
    go_wp2_with fail
    refine (Good_at _ _ d t _ (by exact V2.out)).mono ?_
    rintro e w3 ⟨rfl, hb3⟩
    rw [GD.out]
    have HB3 := hidI hb3
    have G3 : Hid (Glob w3) := hidI (G2.out.grown (gb_below (r := none) hb3) (by simp))
    clear hb3
    go_wp2_with fail
    refine (reads_at _ (by exact G3.out)).mono ?_
    rintro e w4 ⟨rfl, hb4⟩
    have HB4 := hidI hb4
    clear hb4
    go_wp2_with fail
    go_ret
    exact ⟨rfl, bel_trans BB2.out (bel_trans HB3.out HB4.out)⟩
  | true =>
    have GD := hidI hgd
    clear hgd
    rcases printR_good (d := d) GD.out with ⟨h1, h2⟩ | h1
    · rw [h1] at hq
      simp only [Prod.mk.injEq] at hq
      obtain ⟨e7, e8⟩ := hq
      have e9 : l.length ≤ 2000 := by rw [← e7]; exact h2
      have PP : Hid (parseS l = (t, 0)) := hidI (by rw [← e7]; exact parse_print GD.out d DP.out h2)
      clear h1 h2 e7
      subst e8
      go_wp2_with fail
      refine (reads_at _ (by exact G2.out)).mono ?_
      rintro e w3 ⟨rfl, hb3⟩
      have B3 := hidI (box_bel hb3 B2.out)
      have V3 := hidI (V2.out.bel hb3)
      have BB3 := hidI (bel_trans BB2.out hb3)
      have G3 : Hid (Glob w3) := hidI (HG.out.grown (gb_below (r := none) BB3.out) (by simp))
      clear hb3 B2 V2 BB2 G2 x0 x1 x2 x3 x4
      go_wp2_with fail
      refine (parse_at _ l (by unfold maxLen; omega) (by exact G3.out)).mono ?_
      rintro e w4 ⟨t2, ee2, a72, a82, c72, c82, rfl, hp2, hv4, hb4⟩
      rw [PP.out] at hp2
      simp only [Prod.mk.injEq] at hp2
      obtain ⟨e5, e6⟩ := hp2
      subst e5
      subst e6
      have B4 : Hid (BoxIs (w4.alloc (.cells #[.int .i64 t.kind, .int .i64 t.n, .string ⟨t.s.toArray⟩, .slice a72 t.keys.length c72, .slice a82 t.l.length c82] 25)) w.heap.size (.int .i64 t.kind) (.int .i64 t.n) (.string ⟨t.s.toArray⟩) (.slice a7 t.keys.length c7) (.slice a8 t.l.length c8)) := hidI (box_bel (bel_alloc _ _) (box_bel hb4 B3.out))
      have C4 : Hid (BoxIs (w4.alloc (.cells #[.int .i64 t.kind, .int .i64 t.n, .string ⟨t.s.toArray⟩, .slice a72 t.keys.length c72, .slice a82 t.l.length c82] 25)) w4.heap.size (.int .i64 t.kind) (.int .i64 t.n) (.string ⟨t.s.toArray⟩) (.slice a72 t.keys.length c72) (.slice a82 t.l.length c82)) := hidI (heap_alloc_new w4 _)
      have V4 : Hid (VIs (w4.alloc (.cells #[.int .i64 t.kind, .int .i64 t.n, .string ⟨t.s.toArray⟩, .slice a72 t.keys.length c72, .slice a82 t.l.length c82] 25)) ok (d + 2003) t (.agg #[.int .i64 t.kind, .int .i64 t.n, .string ⟨t.s.toArray⟩, .slice a7 t.keys.length c7, .slice a8 t.l.length c8])) := hidI (((V3.out.bel hb4).bel (bel_alloc _ _)).le (by omega))
      have U4 : Hid (VIs (w4.alloc (.cells #[.int .i64 t.kind, .int .i64 t.n, .string ⟨t.s.toArray⟩, .slice a72 t.keys.length c72, .slice a82 t.l.length c82] 25)) (fun k => w3.heap.size ≤ k) (d + 2003) t (.agg #[.int .i64 t.kind, .int .i64 t.n, .string ⟨t.s.toArray⟩, .slice a72 t.keys.length c72, .slice a82 t.l.length c82])) := hidI ((hv4.bel (bel_alloc _ _)).le (by omega))
      have BB4 : Hid (Below w.heap.size w (w4.alloc (.cells #[.int .i64 t.kind, .int .i64 t.n, .string ⟨t.s.toArray⟩, .slice a72 t.keys.length c72, .slice a82 t.l.length c82] 25))) := hidI (bel_trans BB3.out (bel_trans hb4 (bel_alloc _ _)))
      have SR := hidI (sameS_refl (d + 2003) V4.out)
      clear hv4 hb4 B3 V3 BB3 G3
      obtain ⟨x0, x1, x2, x3, x4, -⟩ := B4.out.c
      obtain ⟨y0, y1, y2, y3, y4, -⟩ := C4.out.c
      go_wp2_with fail
      refine (same_all (d + 2003) _ _ _ t t _ _ (by exact V4.out) (by exact U4.out)).mono ?_
      rintro e w6 ⟨rfl, hb6⟩
      rw [SR.out]
      have HB6 := hidI hb6
      clear hb6
      go_wp2_with fail
      go_ret
      exact ⟨rfl, bel_trans BB4.out HB6.out⟩
    · rw [h1] at hq
      simp only [Prod.mk.injEq] at hq
      obtain ⟨e7, e8⟩ := hq
      clear h1
      subst e7
      subst e8
      go_wp2_with fail
      refine (Good_at _ _ d t _ (by exact V2.out)).mono ?_
      rintro e w3 ⟨rfl, hb3⟩
      rw [GD.out]
      have HB3 := hidI hb3
      have G3 : Hid (Glob w3) := hidI (G2.out.grown (gb_below (r := none) hb3) (by simp))
      clear hb3
      go_wp2_with fail
      refine (reads_at _ (by exact G3.out)).mono ?_
      rintro e w4 ⟨rfl, hb4⟩
      have HB4 := hidI hb4
      clear hb4
      go_wp2_with fail
      go_ret
      exact ⟨rfl, bel_trans BB2.out (bel_trans HB3.out HB4.out)⟩
end Go.Proofs.YtkmonpdppgcgaaaDoor
