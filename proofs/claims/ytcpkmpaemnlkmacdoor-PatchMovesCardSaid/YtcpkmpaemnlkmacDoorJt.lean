/- To move is to take away, and to add: PatchMoves. -/
import Derived.Test.YtcpkmpaemnlkmacDoorYh
set_option linter.unusedSimpArgs false
set_option linter.unusedVariables false
namespace Go.Proofs.YtcpkmpaemnlkmacDoor
open Go.RowKit

theorem moved_err {t : V} {frm dst : List UInt8} (h : (getR (splitP frm) t).2 ≠ 0) : movedR t frm dst = (t, (getR (splitP frm) t).2) := by
  unfold movedR; rw [if_pos h]
theorem moved_self {t z : V} {frm : List UInt8} (h : movedR t frm frm = (z, 0)) : z = t := by
  unfold movedR at h
  split at h
  · rename_i h0; simp only [Prod.mk.injEq] at h; exact absurd h.2 h0
  · split at h
    · simp at h
    · rw [if_pos rfl] at h
      simp only [Prod.mk.injEq, and_true] at h
      exact h.symm
theorem moved_ok {t z : V} {frm dst : List UInt8} (h : movedR t frm dst = (z, 0)) (hne : dst ≠ frm) : (changeR removedV (splitP frm) t).2 = 0 ∧ layR addedV dst (splitP dst) (changeR removedV (splitP frm) t).1 (getR (splitP frm) t).1 = (z, 0) := by
  unfold movedR at h
  split at h
  · rename_i h0; simp only [Prod.mk.injEq] at h; exact absurd h.2 h0
  · split at h
    · simp at h
    · split at h
      · rename_i h0; simp only [Prod.mk.injEq] at h; exact absurd h.2 h0
      · rename_i h1
        split at h
        · rename_i h0; simp only [Prod.mk.injEq] at h; exact absurd h.2 h0
        · rename_i h2
          simp only [ne_eq, Decidable.not_not] at h1 h2
          simp only [Prod.mk.injEq, and_true] at h
          exact ⟨h1, by rw [← h, ← h2]⟩

set_option maxRecDepth 100000 in
set_option maxHeartbeats 40000000 in
theorem patchMoves_walk (w : World) (ok1 : Nat → Prop) (d1 : Nat) (t : V) (v : Value) (h1 : VIs w ok1 d1 t v) (frm : List UInt8) (hf : frm.length ≤ 140737488351232) (dst : List UInt8) (hd : dst.length ≤ 140737488351232) (hM : GlobM w) :
    Calls Tryd.prog 7 #[v, str frm, str dst] w fun e w' => e = .returned (.bool true) ∧ Below w.heap.size w w' := by
  have h : In w (fun _ => True) t v := h1.is.weak fun _ _ => trivial
  have H := hidI h
  have HMM := hidI hM
  obtain ⟨l1, l2, l3⟩ := h.lens
  obtain ⟨a1, a2, c1, c2, rfl⟩ := h.form
  clear h hM h1
  unfold str
  go_enter Tryd.func7, Tryd.ntmps7
  go_wp2_with fail
  refine (get_is _ (fun _ => True) t _ frm (by exact H.out.bel (bel_alloc _ _)) hf (by exact HMM.out.bel (bel_alloc _ _))).mono ?_
  rintro e w1 ⟨r, rfl, hb1, hr⟩
  obtain ⟨g, hg⟩ : ∃ g, getR (splitP frm) t = g := ⟨_, rfl⟩
  rw [hg] at hr ⊢
  obtain ⟨x, xe⟩ := g
  simp only at hr ⊢
  obtain ⟨a7, a8, c7, c8, rfl⟩ := hr.form
  have HG := hidI hg
  have hbb := bel_trans hb1 (bel_alloc w1 (.cells #[.int .i64 x.kind, .int .i64 x.n, .string ⟨x.s.toArray⟩, .slice a7 x.keys.length c7, .slice a8 x.l.length c8] 25))
  have K1 : Hid (BoxIs (w1.alloc (.cells #[.int .i64 x.kind, .int .i64 x.n, .string ⟨x.s.toArray⟩, .slice a7 x.keys.length c7, .slice a8 x.l.length c8] 25)) w.heap.size (.int .i64 t.kind) (.int .i64 t.n) (.string ⟨t.s.toArray⟩) (.slice a1 t.keys.length c1) (.slice a2 t.l.length c2) ∧ BoxIs (w1.alloc (.cells #[.int .i64 x.kind, .int .i64 x.n, .string ⟨x.s.toArray⟩, .slice a7 x.keys.length c7, .slice a8 x.l.length c8] 25)) w1.heap.size (.int .i64 x.kind) (.int .i64 x.n) (.string ⟨x.s.toArray⟩) (.slice a7 x.keys.length c7) (.slice a8 x.l.length c8) ∧ In (w1.alloc (.cells #[.int .i64 x.kind, .int .i64 x.n, .string ⟨x.s.toArray⟩, .slice a7 x.keys.length c7, .slice a8 x.l.length c8] 25)) (fun _ => True) x (.agg #[.int .i64 x.kind, .int .i64 x.n, .string ⟨x.s.toArray⟩, .slice a7 x.keys.length c7, .slice a8 x.l.length c8]) ∧ Below w.heap.size w (w1.alloc (.cells #[.int .i64 x.kind, .int .i64 x.n, .string ⟨x.s.toArray⟩, .slice a7 x.keys.length c7, .slice a8 x.l.length c8] 25))) := ⟨box_bel hbb (heap_alloc_new w _), heap_alloc_new w1 _, hr.bel (bel_alloc _ _), bel_trans (bel_alloc _ _) hbb⟩
  clear hg hr hb1 hbb
  obtain ⟨p0, p1, p2, p3, p4, -⟩ := K1.out.1.c
  go_wp2_with fail
  refine (one_move ⟨4, dst, frm, zeroT⟩ t rfl _ (fun _ => True) _ _ (by exact H.out.bel K1.out.2.2.2) (by exact ⟨pa_i64 4 (by omega) (by omega), hd, hf, none, none, 0, 0, rfl, in_zero _ _⟩) (by exact HMM.out.bel K1.out.2.2.2)).mono ?_
  rintro e w2 ⟨r, rfl, hb2, hr⟩
  obtain ⟨g, hg⟩ : ∃ g, movedR t frm dst = g := ⟨_, rfl⟩
  simp only at hr ⊢
  rw [hg] at hr ⊢
  obtain ⟨z, ze⟩ := g
  simp only at hr ⊢
  obtain ⟨a3, a4, c3, c4, rfl⟩ := hr.form
  have HV := hidI hg
  have hbb := bel_trans hb2 (bel_alloc w2 (.cells #[.int .i64 z.kind, .int .i64 z.n, .string ⟨z.s.toArray⟩, .slice a3 z.keys.length c3, .slice a4 z.l.length c4] 25))
  have K2 : Hid (BoxIs (w2.alloc (.cells #[.int .i64 z.kind, .int .i64 z.n, .string ⟨z.s.toArray⟩, .slice a3 z.keys.length c3, .slice a4 z.l.length c4] 25)) w.heap.size (.int .i64 t.kind) (.int .i64 t.n) (.string ⟨t.s.toArray⟩) (.slice a1 t.keys.length c1) (.slice a2 t.l.length c2) ∧ BoxIs (w2.alloc (.cells #[.int .i64 z.kind, .int .i64 z.n, .string ⟨z.s.toArray⟩, .slice a3 z.keys.length c3, .slice a4 z.l.length c4] 25)) w1.heap.size (.int .i64 x.kind) (.int .i64 x.n) (.string ⟨x.s.toArray⟩) (.slice a7 x.keys.length c7) (.slice a8 x.l.length c8) ∧ In (w2.alloc (.cells #[.int .i64 z.kind, .int .i64 z.n, .string ⟨z.s.toArray⟩, .slice a3 z.keys.length c3, .slice a4 z.l.length c4] 25)) (fun _ => True) x (.agg #[.int .i64 x.kind, .int .i64 x.n, .string ⟨x.s.toArray⟩, .slice a7 x.keys.length c7, .slice a8 x.l.length c8]) ∧ Below w.heap.size w (w2.alloc (.cells #[.int .i64 z.kind, .int .i64 z.n, .string ⟨z.s.toArray⟩, .slice a3 z.keys.length c3, .slice a4 z.l.length c4] 25)) ∧ BoxIs (w2.alloc (.cells #[.int .i64 z.kind, .int .i64 z.n, .string ⟨z.s.toArray⟩, .slice a3 z.keys.length c3, .slice a4 z.l.length c4] 25)) w2.heap.size (.int .i64 z.kind) (.int .i64 z.n) (.string ⟨z.s.toArray⟩) (.slice a3 z.keys.length c3) (.slice a4 z.l.length c4) ∧ In (w2.alloc (.cells #[.int .i64 z.kind, .int .i64 z.n, .string ⟨z.s.toArray⟩, .slice a3 z.keys.length c3, .slice a4 z.l.length c4] 25)) (fun _ => True) z (.agg #[.int .i64 z.kind, .int .i64 z.n, .string ⟨z.s.toArray⟩, .slice a3 z.keys.length c3, .slice a4 z.l.length c4])) := ⟨box_bel hbb K1.out.1, box_bel hbb K1.out.2.1, K1.out.2.2.1.bel hbb, bel_trans K1.out.2.2.2 hbb, heap_alloc_new w2 _, (hr.bel (bel_alloc _ _)).weak fun _ _ => trivial⟩
  clear hg hr hb2 hbb p0 p1 p2 p3 p4 K1
  by_cases hxe : xe = 0
  · subst hxe
    by_cases hze : ze = 0
    · subst hze
      by_cases hfd : frm = dst
      · have q1 : (frm == dst) = true := by rw [hfd]; simp
        subst hfd
        have hzt := moved_self HV.out
        subst hzt
        obtain ⟨p0, p1, p2, p3, p4, -⟩ := K2.out.1.c
        obtain ⟨r0, r1, r2, r3, r4, -⟩ := K2.out.2.2.2.2.1.c
        go_wp2_with fail
        refine (same_is _ (fun _ => True) (fun _ => True) z _ _ (by exact K2.out.2.2.2.2.2) (by exact H.out.bel K2.out.2.2.2.1)).mono ?_
        rintro e ws ⟨rfl, hb3⟩
        have B3 := hidI (bel_trans K2.out.2.2.2.1 hb3)
        clear hb3 p0 p1 p2 p3 p4 r0 r1 r2 r3 r4 K2
        go_wp2_with fail
        refine (patches_at _ (by exact HMM.out.bel B3.out)).mono ?_
        rintro e wp ⟨rfl, hb7⟩
        have B7 := hidI (bel_trans B3.out hb7)
        clear hb7
        go_wp2_with fail
        go_ret
        exact ⟨rfl, B7.out⟩
      · have q1 : (frm == dst) = false := by rw [beq_eq_false_iff_ne]; exact hfd
        have MO := hidI (moved_ok HV.out (fun e => hfd e.symm))
        clear hfd
        go_wp2_with fail
        refine (patches_at _ (by exact HMM.out.bel K2.out.2.2.2.1)).mono ?_
        rintro e w3 ⟨rfl, hb3⟩
        have K3 : Hid (BoxIs w3 w.heap.size (.int .i64 t.kind) (.int .i64 t.n) (.string ⟨t.s.toArray⟩) (.slice a1 t.keys.length c1) (.slice a2 t.l.length c2) ∧ BoxIs w3 w1.heap.size (.int .i64 x.kind) (.int .i64 x.n) (.string ⟨x.s.toArray⟩) (.slice a7 x.keys.length c7) (.slice a8 x.l.length c8) ∧ In w3 (fun _ => True) x (.agg #[.int .i64 x.kind, .int .i64 x.n, .string ⟨x.s.toArray⟩, .slice a7 x.keys.length c7, .slice a8 x.l.length c8]) ∧ Below w.heap.size w w3 ∧ BoxIs w3 w2.heap.size (.int .i64 z.kind) (.int .i64 z.n) (.string ⟨z.s.toArray⟩) (.slice a3 z.keys.length c3) (.slice a4 z.l.length c4) ∧ In w3 (fun _ => True) z (.agg #[.int .i64 z.kind, .int .i64 z.n, .string ⟨z.s.toArray⟩, .slice a3 z.keys.length c3, .slice a4 z.l.length c4])) := ⟨box_bel hb3 K2.out.1, box_bel hb3 K2.out.2.1, K2.out.2.2.1.bel hb3, bel_trans K2.out.2.2.2.1 hb3, box_bel hb3 K2.out.2.2.2.2.1, K2.out.2.2.2.2.2.bel hb3⟩
        clear hb3 K2
        obtain ⟨p0, p1, p2, p3, p4, -⟩ := K3.out.1.c
        go_wp2_with fail
        refine (remove_is _ (fun _ => True) t _ frm (by exact H.out.bel K3.out.2.2.2.1) hf (by exact HMM.out.bel K3.out.2.2.2.1)).mono ?_
        rintro e w4 ⟨r, rfl, hb4, hr⟩
        obtain ⟨g, hg⟩ : ∃ g, changeR removedV (splitP frm) t = g := ⟨_, rfl⟩
        have mo := MO.out
        rw [hg, HG.out] at mo
        rw [hg] at hr ⊢
        obtain ⟨y, ye⟩ := g
        simp only at hr mo ⊢
        obtain ⟨mo1, mo2⟩ := mo
        subst mo1
        have MO2 := hidI mo2
        obtain ⟨a5, a6, c5, c6, rfl⟩ := hr.form
        have hbb := bel_trans hb4 (bel_alloc w4 (.cells #[.int .i64 y.kind, .int .i64 y.n, .string ⟨y.s.toArray⟩, .slice a5 y.keys.length c5, .slice a6 y.l.length c6] 25))
        have K4 : Hid (BoxIs (w4.alloc (.cells #[.int .i64 y.kind, .int .i64 y.n, .string ⟨y.s.toArray⟩, .slice a5 y.keys.length c5, .slice a6 y.l.length c6] 25)) w1.heap.size (.int .i64 x.kind) (.int .i64 x.n) (.string ⟨x.s.toArray⟩) (.slice a7 x.keys.length c7) (.slice a8 x.l.length c8) ∧ In (w4.alloc (.cells #[.int .i64 y.kind, .int .i64 y.n, .string ⟨y.s.toArray⟩, .slice a5 y.keys.length c5, .slice a6 y.l.length c6] 25)) (fun _ => True) x (.agg #[.int .i64 x.kind, .int .i64 x.n, .string ⟨x.s.toArray⟩, .slice a7 x.keys.length c7, .slice a8 x.l.length c8]) ∧ Below w.heap.size w (w4.alloc (.cells #[.int .i64 y.kind, .int .i64 y.n, .string ⟨y.s.toArray⟩, .slice a5 y.keys.length c5, .slice a6 y.l.length c6] 25)) ∧ BoxIs (w4.alloc (.cells #[.int .i64 y.kind, .int .i64 y.n, .string ⟨y.s.toArray⟩, .slice a5 y.keys.length c5, .slice a6 y.l.length c6] 25)) w2.heap.size (.int .i64 z.kind) (.int .i64 z.n) (.string ⟨z.s.toArray⟩) (.slice a3 z.keys.length c3) (.slice a4 z.l.length c4) ∧ In (w4.alloc (.cells #[.int .i64 y.kind, .int .i64 y.n, .string ⟨y.s.toArray⟩, .slice a5 y.keys.length c5, .slice a6 y.l.length c6] 25)) (fun _ => True) z (.agg #[.int .i64 z.kind, .int .i64 z.n, .string ⟨z.s.toArray⟩, .slice a3 z.keys.length c3, .slice a4 z.l.length c4]) ∧ BoxIs (w4.alloc (.cells #[.int .i64 y.kind, .int .i64 y.n, .string ⟨y.s.toArray⟩, .slice a5 y.keys.length c5, .slice a6 y.l.length c6] 25)) w4.heap.size (.int .i64 y.kind) (.int .i64 y.n) (.string ⟨y.s.toArray⟩) (.slice a5 y.keys.length c5) (.slice a6 y.l.length c6) ∧ In (w4.alloc (.cells #[.int .i64 y.kind, .int .i64 y.n, .string ⟨y.s.toArray⟩, .slice a5 y.keys.length c5, .slice a6 y.l.length c6] 25)) (fun _ => True) y (.agg #[.int .i64 y.kind, .int .i64 y.n, .string ⟨y.s.toArray⟩, .slice a5 y.keys.length c5, .slice a6 y.l.length c6])) := ⟨box_bel hbb K3.out.2.1, K3.out.2.2.1.bel hbb, bel_trans K3.out.2.2.2.1 hbb, box_bel hbb K3.out.2.2.2.2.1, K3.out.2.2.2.2.2.bel hbb, heap_alloc_new w4 _, (hr.bel (bel_alloc _ _)).weak fun _ _ => trivial⟩
        clear hg hr hb4 hbb mo2 MO p0 p1 p2 p3 p4 K3
        obtain ⟨q0, q01, q2, q3, q4, -⟩ := K4.out.1.c
        obtain ⟨r0, r1, r2, r3, r4, -⟩ := K4.out.2.2.2.2.2.1.c
        go_wp2_with fail
        refine (add_is _ (fun _ => True) y x _ _ dst (by exact K4.out.2.2.2.2.2.2) (by exact K4.out.2.1) hd (by exact HMM.out.bel K4.out.2.2.1)).mono ?_
        rintro e w5 ⟨r, rfl, hb5, hr⟩
        rw [MO2.out] at hr ⊢
        simp only at hr ⊢
        obtain ⟨b3, b4, d3, d4, rfl⟩ := hr.form
        have hbb := bel_trans hb5 (bel_alloc w5 (.cells #[.int .i64 z.kind, .int .i64 z.n, .string ⟨z.s.toArray⟩, .slice b3 z.keys.length d3, .slice b4 z.l.length d4] 25))
        have K5 : Hid (Below w.heap.size w (w5.alloc (.cells #[.int .i64 z.kind, .int .i64 z.n, .string ⟨z.s.toArray⟩, .slice b3 z.keys.length d3, .slice b4 z.l.length d4] 25)) ∧ BoxIs (w5.alloc (.cells #[.int .i64 z.kind, .int .i64 z.n, .string ⟨z.s.toArray⟩, .slice b3 z.keys.length d3, .slice b4 z.l.length d4] 25)) w2.heap.size (.int .i64 z.kind) (.int .i64 z.n) (.string ⟨z.s.toArray⟩) (.slice a3 z.keys.length c3) (.slice a4 z.l.length c4) ∧ In (w5.alloc (.cells #[.int .i64 z.kind, .int .i64 z.n, .string ⟨z.s.toArray⟩, .slice b3 z.keys.length d3, .slice b4 z.l.length d4] 25)) (fun _ => True) z (.agg #[.int .i64 z.kind, .int .i64 z.n, .string ⟨z.s.toArray⟩, .slice a3 z.keys.length c3, .slice a4 z.l.length c4]) ∧ BoxIs (w5.alloc (.cells #[.int .i64 z.kind, .int .i64 z.n, .string ⟨z.s.toArray⟩, .slice b3 z.keys.length d3, .slice b4 z.l.length d4] 25)) w5.heap.size (.int .i64 z.kind) (.int .i64 z.n) (.string ⟨z.s.toArray⟩) (.slice b3 z.keys.length d3) (.slice b4 z.l.length d4) ∧ In (w5.alloc (.cells #[.int .i64 z.kind, .int .i64 z.n, .string ⟨z.s.toArray⟩, .slice b3 z.keys.length d3, .slice b4 z.l.length d4] 25)) (fun _ => True) z (.agg #[.int .i64 z.kind, .int .i64 z.n, .string ⟨z.s.toArray⟩, .slice b3 z.keys.length d3, .slice b4 z.l.length d4])) := ⟨bel_trans K4.out.2.2.1 hbb, box_bel hbb K4.out.2.2.2.1, K4.out.2.2.2.2.1.bel hbb, heap_alloc_new w5 _, (hr.bel (bel_alloc _ _)).weak fun _ _ => trivial⟩
        clear hr hb5 hbb q0 q01 q2 q3 q4 r0 r1 r2 r3 r4 K4
        obtain ⟨q0, q01, q2, q3, q4, -⟩ := K5.out.2.1.c
        obtain ⟨r0, r1, r2, r3, r4, -⟩ := K5.out.2.2.2.1.c
        go_wp2_with fail
        refine (same_is _ (fun _ => True) (fun _ => True) z _ _ (by exact K5.out.2.2.2.2) (by exact K5.out.2.2.1)).mono ?_
        rintro e ws ⟨rfl, hb6⟩
        have B6 := hidI (bel_trans K5.out.1 hb6)
        clear hb6 q0 q01 q2 q3 q4 r0 r1 r2 r3 r4 K5
        go_wp2_with fail
        go_ret
        exact ⟨rfl, B6.out⟩
    · have e3 : (ze != 0) = true := by rw [bne_iff_ne]; exact hze
      have e4 : (ze == 0) = false := by rw [beq_eq_false_iff_ne]; exact hze
      clear hze
      go_wp2_with fail
      refine (patches_at _ (by exact HMM.out.bel K2.out.2.2.2.1)).mono ?_
      rintro e wp ⟨rfl, hb7⟩
      have B7 := hidI (bel_trans K2.out.2.2.2.1 hb7)
      clear hb7
      go_wp2_with fail
      go_ret
      exact ⟨rfl, B7.out⟩
  · have e1 : (xe != 0) = true := by rw [bne_iff_ne]; exact hxe
    have e2 : (xe == 0) = false := by rw [beq_eq_false_iff_ne]; exact hxe
    have hze : ze = xe := by
      have := moved_err (t := t) (frm := frm) (dst := dst) (by rw [HG.out]; exact hxe)
      rw [HV.out, HG.out] at this
      simp only [Prod.mk.injEq] at this
      exact this.2
    subst hze
    clear hxe
    go_wp2_with fail
    refine (patches_at _ (by exact HMM.out.bel K2.out.2.2.2.1)).mono ?_
    rintro e wp ⟨rfl, hb7⟩
    have B7 := hidI (bel_trans K2.out.2.2.2.1 hb7)
    clear hb7
    go_wp2_with fail
    go_ret
    exact ⟨rfl, B7.out⟩
end Go.Proofs.YtcpkmpaemnlkmacDoor
