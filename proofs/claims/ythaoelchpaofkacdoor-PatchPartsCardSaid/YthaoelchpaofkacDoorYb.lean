/- What moved of package patch does. -/
import Derived.Test.YthaoelchpaofkacDoorYa
import Derived.Test.YthaoelchpaofkacDoorXm
import Derived.Test.YthaoelchpaofkacDoorXn
set_option linter.unusedSimpArgs false
set_option linter.unusedVariables false
namespace Go.Proofs.YthaoelchpaofkacDoor
open Go.RowKit

set_option maxRecDepth 100000 in
set_option maxHeartbeats 40000000 in
theorem moved_is (w : World) (ok : Nat → Prop) (t : V) (v : Value) (frm dst : List UInt8) (h : In w ok t v) (hf : frm.length ≤ 140737488351232) (hd : dst.length ≤ 140737488351232) (hM : GlobM w) :
    Calls Tryd.prog 29 #[v, str frm, str dst] w fun e w' => ∃ r, e = .returned (.tuple #[r, .int .i64 (movedR t frm dst).2]) ∧ Below w.heap.size w w' ∧ In w' (okN ok w.heap.size) (movedR t frm dst).1 r := by
  have H := hidI h.low
  have HMM := hidI hM
  obtain ⟨l1, l2, l3⟩ := h.lens
  obtain ⟨a1, a2, c1, c2, rfl⟩ := h.form
  clear h hM
  have B2 : Hid (∀ o1 o2, Below w.heap.size w ((w.alloc o1).alloc o2)) := fun o1 o2 => bel_trans (bel_alloc _ _) (bel_alloc _ _)
  unfold str
  go_enter Tryd.func29, Tryd.ntmps29
  go_wp2_with fail
  refine (get_is _ (fun k => ok k ∧ k < w.heap.size) t _ frm (by exact H.out.bel (B2.out _ _)) hf (by exact HMM.out.bel (B2.out _ _))).mono ?_
  rintro e w1 ⟨r, rfl, hb1, hr⟩
  obtain ⟨g, hg⟩ : ∃ g, getR (splitP frm) t = g := ⟨_, rfl⟩
  rw [hg] at hr ⊢
  obtain ⟨x, xe⟩ := g
  simp only at hr ⊢
  obtain ⟨a7, a8, c7, c8, rfl⟩ := hr.form
  have HG := hidI hg
  have hbb := bel_trans hb1 (bel_alloc w1 (.cells #[.int .i64 x.kind, .int .i64 x.n, .string ⟨x.s.toArray⟩, .slice a7 x.keys.length c7, .slice a8 x.l.length c8] 25))
  have K : Hid (BoxIs (w1.alloc (.cells #[.int .i64 x.kind, .int .i64 x.n, .string ⟨x.s.toArray⟩, .slice a7 x.keys.length c7, .slice a8 x.l.length c8] 25)) w.heap.size (.int .i64 t.kind) (.int .i64 t.n) (.string ⟨t.s.toArray⟩) (.slice a1 t.keys.length c1) (.slice a2 t.l.length c2) ∧ BoxIs (w1.alloc (.cells #[.int .i64 x.kind, .int .i64 x.n, .string ⟨x.s.toArray⟩, .slice a7 x.keys.length c7, .slice a8 x.l.length c8] 25)) (w.heap.size + 1) (.int .i64 0) (.int .i64 0) (.string ⟨#[]⟩) (.slice none 0 0) (.slice none 0 0) ∧ Below w.heap.size w (w1.alloc (.cells #[.int .i64 x.kind, .int .i64 x.n, .string ⟨x.s.toArray⟩, .slice a7 x.keys.length c7, .slice a8 x.l.length c8] 25)) ∧ BoxIs (w1.alloc (.cells #[.int .i64 x.kind, .int .i64 x.n, .string ⟨x.s.toArray⟩, .slice a7 x.keys.length c7, .slice a8 x.l.length c8] 25)) w1.heap.size (.int .i64 x.kind) (.int .i64 x.n) (.string ⟨x.s.toArray⟩) (.slice a7 x.keys.length c7) (.slice a8 x.l.length c8) ∧ In (w1.alloc (.cells #[.int .i64 x.kind, .int .i64 x.n, .string ⟨x.s.toArray⟩, .slice a7 x.keys.length c7, .slice a8 x.l.length c8] 25)) (fun k => ok k ∧ k < w.heap.size) x (.agg #[.int .i64 x.kind, .int .i64 x.n, .string ⟨x.s.toArray⟩, .slice a7 x.keys.length c7, .slice a8 x.l.length c8])) := ⟨box_bel hbb (h2a w _ _), box_bel hbb (h2b w _ _), bel_trans (B2.out _ _) hbb, heap_alloc_new w1 _, hr.bel (bel_alloc _ _)⟩
  clear hg hr hb1 hbb
  by_cases hxe : xe = 0
  · subst hxe
    cases hpre : Lib.hasPrefix dst (frm ++ [47]) with
    | true =>
      have HPRE := hidI hpre
      clear hpre
      go_wp2_with fail
      have hpx := Tryd.strings_HasPrefix ⟨dst.toArray⟩ ⟨(frm ++ [47]).toArray⟩ (w1.alloc (.cells #[.int .i64 x.kind, .int .i64 x.n, .string ⟨x.s.toArray⟩, .slice a7 x.keys.length c7, .slice a8 x.l.length c8] 25))
      simp only [List.toList_toArray] at hpx
      rw [HPRE.out, ← ba_app] at hpx
      refine hpx.mono ?_
      rintro e w2 ⟨rfl, hw2⟩
      have K2 : Hid (BoxIs w2 w.heap.size (.int .i64 t.kind) (.int .i64 t.n) (.string ⟨t.s.toArray⟩) (.slice a1 t.keys.length c1) (.slice a2 t.l.length c2) ∧ BoxIs w2 (w.heap.size + 1) (.int .i64 0) (.int .i64 0) (.string ⟨#[]⟩) (.slice none 0 0) (.slice none 0 0) ∧ Below w.heap.size w w2) := by rw [hw2]; exact ⟨K.out.1, K.out.2.1, K.out.2.2.1⟩
      clear hw2 K hpx
      obtain ⟨p0, p1, p2, p3, p4, -⟩ := (K2.out.1).c
      obtain ⟨x0, x1, x2, x3, x4, y0, y1, y2, y3, y4⟩ := (K2.out.2.1).c
      have Z : Hid (_ ∧ _) := hidI (set_out (C := (w2).heap.size) (g := w.heap.size + 1) ((H.out.bel K2.out.2.2).weak (lowN_low (C := (w2).heap.size))) K2.out.2.2 (by omega) (K2.out.2.1).lt)
      have ZB : Hid _ := hidI ((K2.out.2.1).set (.int .i64 t.kind) (.int .i64 t.n) (.string ⟨t.s.toArray⟩) (.slice a1 t.keys.length c1) (.slice a2 t.l.length c2))
      have HA : Hid (movedR t frm dst = (t, 1)) := hidI (by unfold movedR; rw [HG.out]; simp only [ne_eq, not_true_eq_false, if_false, HPRE.out, if_true])
      clear K2
      go_wp2_with fail
      obtain ⟨z0, z1, z2, z3, z4, -⟩ := ZB.out.c
      refine bodyPost_ret (v := .tuple #[.agg #[.int .i64 t.kind, .int .i64 t.n, .string ⟨t.s.toArray⟩, .slice a1 t.keys.length c1, .slice a2 t.l.length c2], .int .i64 1]) ?_ rfl ?_
      · simp only [set5] at z0 z1 z2 z3 z4
        simp [results, Tryd.results29, go_sem, z0, z1, z2, z3, z4]
      · refine ⟨_, by rw [HA.out], Z.out.1, ?_⟩
        rw [HA.out]
        exact Z.out.2
    | false =>
      have HPRE := hidI hpre
      clear hpre
      go_wp2_with fail
      have hpx := Tryd.strings_HasPrefix ⟨dst.toArray⟩ ⟨(frm ++ [47]).toArray⟩ (w1.alloc (.cells #[.int .i64 x.kind, .int .i64 x.n, .string ⟨x.s.toArray⟩, .slice a7 x.keys.length c7, .slice a8 x.l.length c8] 25))
      simp only [List.toList_toArray] at hpx
      rw [HPRE.out, ← ba_app] at hpx
      refine hpx.mono ?_
      rintro e w2 ⟨rfl, hw2⟩
      have K2 : Hid (BoxIs w2 w.heap.size (.int .i64 t.kind) (.int .i64 t.n) (.string ⟨t.s.toArray⟩) (.slice a1 t.keys.length c1) (.slice a2 t.l.length c2) ∧ BoxIs w2 (w.heap.size + 1) (.int .i64 0) (.int .i64 0) (.string ⟨#[]⟩) (.slice none 0 0) (.slice none 0 0) ∧ Below w.heap.size w w2 ∧ BoxIs w2 w1.heap.size (.int .i64 x.kind) (.int .i64 x.n) (.string ⟨x.s.toArray⟩) (.slice a7 x.keys.length c7) (.slice a8 x.l.length c8) ∧ In w2 (fun k => ok k ∧ k < w.heap.size) x (.agg #[.int .i64 x.kind, .int .i64 x.n, .string ⟨x.s.toArray⟩, .slice a7 x.keys.length c7, .slice a8 x.l.length c8])) := by rw [hw2]; exact K.out
      clear hw2 K hpx
      by_cases hdf : dst = frm
      · have q1 : (dst == frm) = true := by rw [hdf]; simp
        have HDF := hidI hdf
        clear hdf
        obtain ⟨p0, p1, p2, p3, p4, -⟩ := (K2.out.1).c
        obtain ⟨x0, x1, x2, x3, x4, y0, y1, y2, y3, y4⟩ := (K2.out.2.1).c
        have Z : Hid (_ ∧ _) := hidI (set_out (C := (w2).heap.size) (g := w.heap.size + 1) ((H.out.bel K2.out.2.2.1).weak (lowN_low (C := (w2).heap.size))) K2.out.2.2.1 (by omega) (K2.out.2.1).lt)
        have ZB : Hid _ := hidI ((K2.out.2.1).set (.int .i64 t.kind) (.int .i64 t.n) (.string ⟨t.s.toArray⟩) (.slice a1 t.keys.length c1) (.slice a2 t.l.length c2))
        have HA : Hid (movedR t frm dst = (t, 0)) := hidI (by unfold movedR; rw [HG.out]; simp only [ne_eq, not_true_eq_false, if_false, HPRE.out]; rw [if_neg (by simp), if_pos HDF.out])
        clear K2
        go_wp2_with fail
        obtain ⟨z0, z1, z2, z3, z4, -⟩ := ZB.out.c
        refine bodyPost_ret (v := .tuple #[.agg #[.int .i64 t.kind, .int .i64 t.n, .string ⟨t.s.toArray⟩, .slice a1 t.keys.length c1, .slice a2 t.l.length c2], .int .i64 0]) ?_ rfl ?_
        · simp only [set5] at z0 z1 z2 z3 z4
          simp [results, Tryd.results29, go_sem, z0, z1, z2, z3, z4]
        · refine ⟨_, by rw [HA.out], Z.out.1, ?_⟩
          rw [HA.out]
          exact Z.out.2
      · have q1 : (dst == frm) = false := by rw [beq_eq_false_iff_ne]; exact hdf
        have HDF := hidI hdf
        clear hdf
        obtain ⟨p0, p1, p2, p3, p4, -⟩ := K2.out.1.c
        go_wp2_with fail
        refine (remove_is _ (fun k => ok k ∧ k < w.heap.size) t _ frm (by exact H.out.bel K2.out.2.2.1) hf (by exact HMM.out.bel K2.out.2.2.1)).mono ?_
        rintro e w3 ⟨r, rfl, hb3, hr⟩
        obtain ⟨g, hg⟩ : ∃ g, changeR removedV (splitP frm) t = g := ⟨_, rfl⟩
        rw [hg] at hr ⊢
        obtain ⟨y, ye⟩ := g
        simp only at hr ⊢
        obtain ⟨a5, a6, c5, c6, rfl⟩ := hr.form
        have HC := hidI hg
        have hbb := bel_trans hb3 (bel_alloc w3 (.cells #[.int .i64 y.kind, .int .i64 y.n, .string ⟨y.s.toArray⟩, .slice a5 y.keys.length c5, .slice a6 y.l.length c6] 25))
        have hsz2 := K2.out.2.1.lt
        have hsz2b := K2.out.2.2.2.1.lt
        have hsz3 := hb3.size
        have K3 : Hid (BoxIs (w3.alloc (.cells #[.int .i64 y.kind, .int .i64 y.n, .string ⟨y.s.toArray⟩, .slice a5 y.keys.length c5, .slice a6 y.l.length c6] 25)) w.heap.size (.int .i64 t.kind) (.int .i64 t.n) (.string ⟨t.s.toArray⟩) (.slice a1 t.keys.length c1) (.slice a2 t.l.length c2) ∧ BoxIs (w3.alloc (.cells #[.int .i64 y.kind, .int .i64 y.n, .string ⟨y.s.toArray⟩, .slice a5 y.keys.length c5, .slice a6 y.l.length c6] 25)) (w.heap.size + 1) (.int .i64 0) (.int .i64 0) (.string ⟨#[]⟩) (.slice none 0 0) (.slice none 0 0) ∧ Below w.heap.size w (w3.alloc (.cells #[.int .i64 y.kind, .int .i64 y.n, .string ⟨y.s.toArray⟩, .slice a5 y.keys.length c5, .slice a6 y.l.length c6] 25)) ∧ BoxIs (w3.alloc (.cells #[.int .i64 y.kind, .int .i64 y.n, .string ⟨y.s.toArray⟩, .slice a5 y.keys.length c5, .slice a6 y.l.length c6] 25)) w1.heap.size (.int .i64 x.kind) (.int .i64 x.n) (.string ⟨x.s.toArray⟩) (.slice a7 x.keys.length c7) (.slice a8 x.l.length c8) ∧ In (w3.alloc (.cells #[.int .i64 y.kind, .int .i64 y.n, .string ⟨y.s.toArray⟩, .slice a5 y.keys.length c5, .slice a6 y.l.length c6] 25)) (fun k => lowN ok w.heap.size w2.heap.size k ∧ k < w3.heap.size) x (.agg #[.int .i64 x.kind, .int .i64 x.n, .string ⟨x.s.toArray⟩, .slice a7 x.keys.length c7, .slice a8 x.l.length c8]) ∧ BoxIs (w3.alloc (.cells #[.int .i64 y.kind, .int .i64 y.n, .string ⟨y.s.toArray⟩, .slice a5 y.keys.length c5, .slice a6 y.l.length c6] 25)) w3.heap.size (.int .i64 y.kind) (.int .i64 y.n) (.string ⟨y.s.toArray⟩) (.slice a5 y.keys.length c5) (.slice a6 y.l.length c6) ∧ In (w3.alloc (.cells #[.int .i64 y.kind, .int .i64 y.n, .string ⟨y.s.toArray⟩, .slice a5 y.keys.length c5, .slice a6 y.l.length c6] 25)) (fun k => lowN ok w.heap.size w2.heap.size k ∧ k < w3.heap.size) y (.agg #[.int .i64 y.kind, .int .i64 y.n, .string ⟨y.s.toArray⟩, .slice a5 y.keys.length c5, .slice a6 y.l.length c6])) := ⟨box_bel hbb K2.out.1, box_bel hbb K2.out.2.1, bel_trans K2.out.2.2.1 hbb, box_bel hbb K2.out.2.2.2.1, (K2.out.2.2.2.2.bel hbb).weak (fun k hk => ⟨lowN_low k hk, by omega⟩), heap_alloc_new w3 _, hr.low.bel (bel_alloc _ _)⟩
        clear hg hr hb3 hbb p0 p1 p2 p3 p4 K2
        by_cases hye : ye = 0
        · subst hye
          obtain ⟨r0, r1, r2, r3, r4, -⟩ := K3.out.2.2.2.1.c
          obtain ⟨s0, s1, s2, s3, s4, -⟩ := K3.out.2.2.2.2.2.1.c
          go_wp2_with fail
          refine (add_is _ (fun k => lowN ok w.heap.size w2.heap.size k ∧ k < w3.heap.size) y x _ _ dst (by exact K3.out.2.2.2.2.2.2) (by exact K3.out.2.2.2.2.1) hd (by exact HMM.out.bel K3.out.2.2.1)).mono ?_
          rintro e w4 ⟨r, rfl, hb4, hr⟩
          obtain ⟨g, hg⟩ : ∃ g, layR addedV dst (splitP dst) y x = g := ⟨_, rfl⟩
          rw [hg] at hr ⊢
          obtain ⟨z, ze⟩ := g
          simp only at hr ⊢
          obtain ⟨a3, a4, c3, c4, rfl⟩ := hr.form
          have HL := hidI hg
          have hsz4 := hb4.size
          have hszA : (w3.alloc (.cells #[.int .i64 y.kind, .int .i64 y.n, .string ⟨y.s.toArray⟩, .slice a5 y.keys.length c5, .slice a6 y.l.length c6] 25)).heap.size = w3.heap.size + 1 := by simp
          have bx4 := box_bel hb4 K3.out.2.2.2.2.2.1
          obtain ⟨s0, s1, s2, s3, s4, s5, s6, s7, s8, s9⟩ := bx4.c
          have g4 := set5_gb w4 w3.heap.size (.int .i64 z.kind) (.int .i64 z.n) (.string ⟨z.s.toArray⟩) (.slice a3 z.keys.length c3) (.slice a4 z.l.length c4)
          have K4 : Hid (BoxIs (set5 w4 w3.heap.size (.int .i64 z.kind) (.int .i64 z.n) (.string ⟨z.s.toArray⟩) (.slice a3 z.keys.length c3) (.slice a4 z.l.length c4)) w.heap.size (.int .i64 t.kind) (.int .i64 t.n) (.string ⟨t.s.toArray⟩) (.slice a1 t.keys.length c1) (.slice a2 t.l.length c2) ∧ BoxIs (set5 w4 w3.heap.size (.int .i64 z.kind) (.int .i64 z.n) (.string ⟨z.s.toArray⟩) (.slice a3 z.keys.length c3) (.slice a4 z.l.length c4)) (w.heap.size + 1) (.int .i64 0) (.int .i64 0) (.string ⟨#[]⟩) (.slice none 0 0) (.slice none 0 0) ∧ Below w.heap.size w (set5 w4 w3.heap.size (.int .i64 z.kind) (.int .i64 z.n) (.string ⟨z.s.toArray⟩) (.slice a3 z.keys.length c3) (.slice a4 z.l.length c4)) ∧ BoxIs (set5 w4 w3.heap.size (.int .i64 z.kind) (.int .i64 z.n) (.string ⟨z.s.toArray⟩) (.slice a3 z.keys.length c3) (.slice a4 z.l.length c4)) w3.heap.size (.int .i64 z.kind) (.int .i64 z.n) (.string ⟨z.s.toArray⟩) (.slice a3 z.keys.length c3) (.slice a4 z.l.length c4) ∧ In (set5 w4 w3.heap.size (.int .i64 z.kind) (.int .i64 z.n) (.string ⟨z.s.toArray⟩) (.slice a3 z.keys.length c3) (.slice a4 z.l.length c4)) (okN (fun k => lowN ok w.heap.size w2.heap.size k ∧ k < w3.heap.size) (w3.heap.size + 1)) z (.agg #[.int .i64 z.kind, .int .i64 z.n, .string ⟨z.s.toArray⟩, .slice a3 z.keys.length c3, .slice a4 z.l.length c4])) := by
            have hne : ∀ k, okN (fun k => lowN ok w.heap.size w2.heap.size k ∧ k < w3.heap.size) (w3.heap.size + 1) k → k ≠ w3.heap.size := by
              intro k hk e
              rcases hk with hk | hk <;> omega
            exact ⟨(box_bel hb4 K3.out.1).grown g4 (by simp; omega), (box_bel hb4 K3.out.2.1).grown g4 (by simp; omega), bel_set5 (bel_trans K3.out.2.2.1 hb4) (by omega) _ _ _ _ _, bx4.set _ _ _ _ _, (hr.weak (fun k hk => by rw [hszA] at hk; exact hk)).grown g4 hne⟩
          clear hg hr hb4 bx4 g4 r0 r1 r2 r3 r4 K3
          by_cases hze : ze = 0
          · subst hze
            have HA : Hid (movedR t frm dst = (z, 0)) := hidI (by unfold movedR; rw [HG.out, HC.out]; simp only [ne_eq, not_true_eq_false, if_false, HPRE.out, HL.out]; rw [if_neg (by simp), if_neg HDF.out])
            obtain ⟨n0, n1, n2, n3, n4, -⟩ := K4.out.2.2.2.1.c
            obtain ⟨x0, x1, x2, x3, x4, y0, y1, y2, y3, y4⟩ := K4.out.2.1.c
            have ZI := hidI ((K4.out.2.2.2.2.grown (set5_gb (set5 w4 w3.heap.size (.int .i64 z.kind) (.int .i64 z.n) (.string ⟨z.s.toArray⟩) (.slice a3 z.keys.length c3) (.slice a4 z.l.length c4)) (w.heap.size + 1) (.int .i64 z.kind) (.int .i64 z.n) (.string ⟨z.s.toArray⟩) (.slice a3 z.keys.length c3) (.slice a4 z.l.length c4)) (fun k hk e => by
              rcases hk with hk | hk
              · exact lowN_ne (by omega) hsz2 k hk.1 e
              · omega)).weak (ok' := okN ok w.heap.size) (fun k hk => by
              rcases hk with hk | hk
              · exact lowN_out (by omega) k hk.1
              · exact .inr (by omega)))
            have ZW := hidI (bel_set5 K4.out.2.2.1 (Nat.le_succ w.heap.size) (.int .i64 z.kind) (.int .i64 z.n) (.string ⟨z.s.toArray⟩) (.slice a3 z.keys.length c3) (.slice a4 z.l.length c4))
            have ZB := hidI (K4.out.2.1.set (.int .i64 z.kind) (.int .i64 z.n) (.string ⟨z.s.toArray⟩) (.slice a3 z.keys.length c3) (.slice a4 z.l.length c4))
            clear K4
            simp only [set5] at n0 n1 n2 n3 n4 x0 x1 x2 x3 x4 y0 y1 y2 y3 y4
            go_wp2_with fail
            obtain ⟨z0, z1, z2, z3, z4, -⟩ := ZB.out.c
            refine bodyPost_ret (v := .tuple #[.agg #[.int .i64 z.kind, .int .i64 z.n, .string ⟨z.s.toArray⟩, .slice a3 z.keys.length c3, .slice a4 z.l.length c4], .int .i64 0]) ?_ rfl ?_
            · simp only [set5] at z0 z1 z2 z3 z4
              simp [results, Tryd.results29, go_sem, z0, z1, z2, z3, z4]
            · refine ⟨_, by rw [HA.out], ZW.out, ?_⟩
              rw [HA.out]
              exact ZI.out
          · have e3 : (ze != 0) = true := by rw [bne_iff_ne]; exact hze
            have e4 : (ze == 0) = false := by rw [beq_eq_false_iff_ne]; exact hze
            have HZE := hidI hze
            clear hze
            obtain ⟨p0, p1, p2, p3, p4, -⟩ := (K4.out.1).c
            obtain ⟨x0, x1, x2, x3, x4, y0, y1, y2, y3, y4⟩ := (K4.out.2.1).c
            have Z : Hid (_ ∧ _) := hidI (set_out (C := ((set5 w4 w3.heap.size (.int .i64 z.kind) (.int .i64 z.n) (.string ⟨z.s.toArray⟩) (.slice a3 z.keys.length c3) (.slice a4 z.l.length c4))).heap.size) (g := w.heap.size + 1) ((H.out.bel K4.out.2.2.1).weak (lowN_low (C := ((set5 w4 w3.heap.size (.int .i64 z.kind) (.int .i64 z.n) (.string ⟨z.s.toArray⟩) (.slice a3 z.keys.length c3) (.slice a4 z.l.length c4))).heap.size))) K4.out.2.2.1 (by omega) (K4.out.2.1).lt)
            have ZB : Hid _ := hidI ((K4.out.2.1).set (.int .i64 t.kind) (.int .i64 t.n) (.string ⟨t.s.toArray⟩) (.slice a1 t.keys.length c1) (.slice a2 t.l.length c2))
            have HA : Hid (movedR t frm dst = (t, ze)) := hidI (by unfold movedR; rw [HG.out, HC.out]; simp only [ne_eq, not_true_eq_false, if_false, HPRE.out, HL.out]; rw [if_neg (by simp), if_neg HDF.out, if_pos HZE.out])
            clear K4
            simp only [set5] at p0 p1 p2 p3 p4 x0 x1 x2 x3 x4 y0 y1 y2 y3 y4
            go_wp2_with fail
            obtain ⟨z0, z1, z2, z3, z4, -⟩ := ZB.out.c
            refine bodyPost_ret (v := .tuple #[.agg #[.int .i64 t.kind, .int .i64 t.n, .string ⟨t.s.toArray⟩, .slice a1 t.keys.length c1, .slice a2 t.l.length c2], .int .i64 ze]) ?_ rfl ?_
            · simp only [set5] at z0 z1 z2 z3 z4
              simp [results, Tryd.results29, go_sem, z0, z1, z2, z3, z4]
            · refine ⟨_, by rw [HA.out], Z.out.1, ?_⟩
              rw [HA.out]
              exact Z.out.2
        · have e3 : (ye != 0) = true := by rw [bne_iff_ne]; exact hye
          have e4 : (ye == 0) = false := by rw [beq_eq_false_iff_ne]; exact hye
          have HYE := hidI hye
          clear hye
          obtain ⟨p0, p1, p2, p3, p4, -⟩ := (K3.out.1).c
          obtain ⟨x0, x1, x2, x3, x4, y0, y1, y2, y3, y4⟩ := (K3.out.2.1).c
          have Z : Hid (_ ∧ _) := hidI (set_out (C := ((w3.alloc (.cells #[.int .i64 y.kind, .int .i64 y.n, .string ⟨y.s.toArray⟩, .slice a5 y.keys.length c5, .slice a6 y.l.length c6] 25))).heap.size) (g := w.heap.size + 1) ((H.out.bel K3.out.2.2.1).weak (lowN_low (C := ((w3.alloc (.cells #[.int .i64 y.kind, .int .i64 y.n, .string ⟨y.s.toArray⟩, .slice a5 y.keys.length c5, .slice a6 y.l.length c6] 25))).heap.size))) K3.out.2.2.1 (by omega) (K3.out.2.1).lt)
          have ZB : Hid _ := hidI ((K3.out.2.1).set (.int .i64 t.kind) (.int .i64 t.n) (.string ⟨t.s.toArray⟩) (.slice a1 t.keys.length c1) (.slice a2 t.l.length c2))
          have HA : Hid (movedR t frm dst = (t, ye)) := hidI (by unfold movedR; rw [HG.out, HC.out]; simp only [ne_eq, not_true_eq_false, if_false, HPRE.out]; rw [if_neg (by simp), if_neg HDF.out, if_pos HYE.out])
          clear K3
          go_wp2_with fail
          obtain ⟨z0, z1, z2, z3, z4, -⟩ := ZB.out.c
          refine bodyPost_ret (v := .tuple #[.agg #[.int .i64 t.kind, .int .i64 t.n, .string ⟨t.s.toArray⟩, .slice a1 t.keys.length c1, .slice a2 t.l.length c2], .int .i64 ye]) ?_ rfl ?_
          · simp only [set5] at z0 z1 z2 z3 z4
            simp [results, Tryd.results29, go_sem, z0, z1, z2, z3, z4]
          · refine ⟨_, by rw [HA.out], Z.out.1, ?_⟩
            rw [HA.out]
            exact Z.out.2
  · have e1 : (xe != 0) = true := by rw [bne_iff_ne]; exact hxe
    have e2 : (xe == 0) = false := by rw [beq_eq_false_iff_ne]; exact hxe
    have HXE := hidI hxe
    clear hxe
    obtain ⟨p0, p1, p2, p3, p4, -⟩ := (K.out.1).c
    obtain ⟨x0, x1, x2, x3, x4, y0, y1, y2, y3, y4⟩ := (K.out.2.1).c
    have Z : Hid (_ ∧ _) := hidI (set_out (C := ((w1.alloc (.cells #[.int .i64 x.kind, .int .i64 x.n, .string ⟨x.s.toArray⟩, .slice a7 x.keys.length c7, .slice a8 x.l.length c8] 25))).heap.size) (g := w.heap.size + 1) ((H.out.bel K.out.2.2.1).weak (lowN_low (C := ((w1.alloc (.cells #[.int .i64 x.kind, .int .i64 x.n, .string ⟨x.s.toArray⟩, .slice a7 x.keys.length c7, .slice a8 x.l.length c8] 25))).heap.size))) K.out.2.2.1 (by omega) (K.out.2.1).lt)
    have ZB : Hid _ := hidI ((K.out.2.1).set (.int .i64 t.kind) (.int .i64 t.n) (.string ⟨t.s.toArray⟩) (.slice a1 t.keys.length c1) (.slice a2 t.l.length c2))
    have HA : Hid (movedR t frm dst = (t, xe)) := hidI (by unfold movedR; rw [HG.out, if_pos HXE.out])
    clear K
    go_wp2_with fail
    obtain ⟨z0, z1, z2, z3, z4, -⟩ := ZB.out.c
    refine bodyPost_ret (v := .tuple #[.agg #[.int .i64 t.kind, .int .i64 t.n, .string ⟨t.s.toArray⟩, .slice a1 t.keys.length c1, .slice a2 t.l.length c2], .int .i64 xe]) ?_ rfl ?_
    · simp only [set5] at z0 z1 z2 z3 z4
      simp [results, Tryd.results29, go_sem, z0, z1, z2, z3, z4]
    · refine ⟨_, by rw [HA.out], Z.out.1, ?_⟩
      rw [HA.out]
      exact Z.out.2

end Go.Proofs.YthaoelchpaofkacDoor
