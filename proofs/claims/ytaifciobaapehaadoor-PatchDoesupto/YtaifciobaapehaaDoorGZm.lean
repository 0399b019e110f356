/- What DoOps of package stairwellref does. -/
import Derived.Test.YtaifciobaapehaaDoorYa
import Derived.Test.YtaifciobaapehaaDoorXm
import Derived.Test.YtaifciobaapehaaDoorGWp
import Derived.Test.YtaifciobaapehaaDoorGYt
import Derived.Test.YtaifciobaapehaaDoorTp
import Derived.Test.YtaifciobaapehaaDoorXa
/- What moved of package patch does. -/
set_option linter.unusedSimpArgs false
set_option linter.unusedVariables false
namespace Go.Proofs.YtaifciobaapehaaDoor
open Go.RowKit

set_option maxRecDepth 100000 in
set_option maxHeartbeats 40000000 in
theorem moved_is (w : World) (ok : Nat → Prop) (t : V) (v : Value) (frm dst : List UInt8) (h : In w ok t v) (hf : frm.length ≤ 140737488351232) (hd : dst.length ≤ 140737488351232) (hM : GlobM w) :
    Calls Tryd.prog 37 #[v, str frm, str dst] w fun e w' => ∃ r, e = .returned (.tuple #[r, .int .i64 (movedR t frm dst).2]) ∧ Below w.heap.size w w' ∧ In w' (okN ok w.heap.size) (movedR t frm dst).1 r := by
  have H := hidI h.low
  have HMM := hidI hM
  obtain ⟨l1, l2, l3⟩ := h.lens
  obtain ⟨a1, a2, c1, c2, rfl⟩ := h.form
  clear h hM
  have B2 : Hid (∀ o1 o2, Below w.heap.size w ((w.alloc o1).alloc o2)) := fun o1 o2 => bel_trans (bel_alloc _ _) (bel_alloc _ _)
  unfold str
  go_enter Tryd.func37, Tryd.ntmps37
  go_wp2_with fail
  refine (get_is _ (fun k => ok k ∧ k < w.heap.size) t _ frm (by exact H.out.bel (B2.out _ _)) hf (by exact HMM.out.bel (B2.out _ _))).mono ?_
  rintro e w1 ⟨r, rfl, hb1, hr⟩
  obtain ⟨g, hg⟩ : ∃ g, getR (splitP frm) t = g := ⟨_, rfl⟩
  rw [hg] at hr ⊢
  obtain ⟨x, xe⟩ := g
  simp only at hr ⊢
  obtain ⟨a7, a8, c7, c8, rfl⟩ := hr.form
  have HG := hidI hg
  have hbb := bel_trans hb1 (bel_alloc w1 (.cells #[.int .i64 x.kind, .int .i64 x.n, .string ⟨x.s.toArray⟩, .slice a7 x.keys.length c7, .slice a8 x.l.length c8] 25))
  have K : Hid (BoxIs (w1.alloc (.cells #[.int .i64 x.kind, .int .i64 x.n, .string ⟨x.s.toArray⟩, .slice a7 x.keys.length c7, .slice a8 x.l.length c8] 25)) w.heap.size (.int .i64 t.kind) (.int .i64 t.n) (.string ⟨t.s.toArray⟩) (.slice a1 t.keys.length c1) (.slice a2 t.l.length c2) ∧ BoxIs (w1.alloc (.cells #[.int .i64 x.kind, .int .i64 x.n, .string ⟨x.s.toArray⟩, .slice a7 x.keys.length c7, .slice a8 x.l.length c8] 25)) (w.heap.size + 1) (.int .i64 0) (.int .i64 0) (.string ⟨#[]⟩) (.slice none 0 0) (.slice none 0 0) ∧ Below w.heap.size w (w1.alloc (.cells #[.int .i64 x.kind, .int .i64 x.n, .string ⟨x.s.toArray⟩, .slice a7 x.keys.length c7, .slice a8 x.l.length c8] 25)) ∧ BoxIs (w1.alloc (.cells #[.int .i64 x.kind, .int .i64 x.n, .string ⟨x.s.toArray⟩, .slice a7 x.keys.length c7, .slice a8 x.l.length c8] 25)) w1.heap.size (.int .i64 x.kind) (.int .i64 x.n) (.string ⟨x.s.toArray⟩) (.slice a7 x.keys.length c7) (.slice a8 x.l.length c8) ∧ In (w1.alloc (.cells #[.int .i64 x.kind, .int .i64 x.n, .string ⟨x.s.toArray⟩, .slice a7 x.keys.length c7, .slice a8 x.l.length c8] 25)) (fun k => ok k ∧ k < w.heap.size) x (.agg #[.int .i64 x.kind, .int .i64 x.n, .string ⟨x.s.toArray⟩, .slice a7 x.keys.length c7, .slice a8 x.l.length c8])) := ⟨box_bel hbb (h2a w _ _), box_bel hbb (h2b w _ _), bel_trans (B2.out _ _) hbb, heap_alloc_new w1 _, hr.bel (bel_alloc _ _)⟩
  clear hg hr hb1 hbb
  by_cases hxe : xe = 0
  · subst hxe
    cases hpre : Lib.hasPrefix dst (frm ++ [47]) with
    | true =>
      have HPRE := hidI hpre
      clear hpre
      go_wp2_with fail
      have hpx := Tryd.strings_HasPrefix ⟨dst.toArray⟩ ⟨(frm ++ [47]).toArray⟩ (w1.alloc (.cells #[.int .i64 x.kind, .int .i64 x.n, .string ⟨x.s.toArray⟩, .slice a7 x.keys.length c7, .slice a8 x.l.length c8] 25))
      simp only [List.toList_toArray] at hpx
      rw [HPRE.out, ← ba_app] at hpx
      refine hpx.mono ?_
      rintro e w2 ⟨rfl, hw2⟩
      have K2 : Hid (BoxIs w2 w.heap.size (.int .i64 t.kind) (.int .i64 t.n) (.string ⟨t.s.toArray⟩) (.slice a1 t.keys.length c1) (.slice a2 t.l.length c2) ∧ BoxIs w2 (w.heap.size + 1) (.int .i64 0) (.int .i64 0) (.string ⟨#[]⟩) (.slice none 0 0) (.slice none 0 0) ∧ Below w.heap.size w w2) := by rw [hw2]; exact ⟨K.out.1, K.out.2.1, K.out.2.2.1⟩
      clear hw2 K hpx
      obtain ⟨p0, p1, p2, p3, p4, -⟩ := (K2.out.1).c
      obtain ⟨x0, x1, x2, x3, x4, y0, y1, y2, y3, y4⟩ := (K2.out.2.1).c
      have Z : Hid (_ ∧ _) := hidI (set_out (C := (w2).heap.size) (g := w.heap.size + 1) ((H.out.bel K2.out.2.2).weak (lowN_low (C := (w2).heap.size))) K2.out.2.2 (by omega) (K2.out.2.1).lt)
      have ZB : Hid _ := hidI ((K2.out.2.1).set (.int .i64 t.kind) (.int .i64 t.n) (.string ⟨t.s.toArray⟩) (.slice a1 t.keys.length c1) (.slice a2 t.l.length c2))
      have HA : Hid (movedR t frm dst = (t, 1)) := hidI (by unfold movedR; rw [HG.out]; simp only [ne_eq, not_true_eq_false, if_false, HPRE.out, if_true])
      clear K2
      go_wp2_with fail
      obtain ⟨z0, z1, z2, z3, z4, -⟩ := ZB.out.c
      refine bodyPost_ret (v := .tuple #[.agg #[.int .i64 t.kind, .int .i64 t.n, .string ⟨t.s.toArray⟩, .slice a1 t.keys.length c1, .slice a2 t.l.length c2], .int .i64 1]) ?_ rfl ?_
      · simp only [set5] at z0 z1 z2 z3 z4
        simp [results, Tryd.results37, go_sem, z0, z1, z2, z3, z4]
      · refine ⟨_, by rw [HA.out], Z.out.1, ?_⟩
        rw [HA.out]
        exact Z.out.2
    | false =>
      have HPRE := hidI hpre
      clear hpre
      go_wp2_with fail
      have hpx := Tryd.strings_HasPrefix ⟨dst.toArray⟩ ⟨(frm ++ [47]).toArray⟩ (w1.alloc (.cells #[.int .i64 x.kind, .int .i64 x.n, .string ⟨x.s.toArray⟩, .slice a7 x.keys.length c7, .slice a8 x.l.length c8] 25))
      simp only [List.toList_toArray] at hpx
      rw [HPRE.out, ← ba_app] at hpx
      refine hpx.mono ?_
      rintro e w2 ⟨rfl, hw2⟩
      have K2 : Hid (BoxIs w2 w.heap.size (.int .i64 t.kind) (.int .i64 t.n) (.string ⟨t.s.toArray⟩) (.slice a1 t.keys.length c1) (.slice a2 t.l.length c2) ∧ BoxIs w2 (w.heap.size + 1) (.int .i64 0) (.int .i64 0) (.string ⟨#[]⟩) (.slice none 0 0) (.slice none 0 0) ∧ Below w.heap.size w w2 ∧ BoxIs w2 w1.heap.size (.int .i64 x.kind) (.int .i64 x.n) (.string ⟨x.s.toArray⟩) (.slice a7 x.keys.length c7) (.slice a8 x.l.length c8) ∧ In w2 (fun k => ok k ∧ k < w.heap.size) x (.agg #[.int .i64 x.kind, .int .i64 x.n, .string ⟨x.s.toArray⟩, .slice a7 x.keys.length c7, .slice a8 x.l.length c8])) := by rw [hw2]; exact K.out
      clear hw2 K hpx
      by_cases hdf : dst = frm
      · have q1 : (dst == frm) = true := by rw [hdf]; simp
        have HDF := hidI hdf
        clear hdf
        obtain ⟨p0, p1, p2, p3, p4, -⟩ := (K2.out.1).c
        obtain ⟨x0, x1, x2, x3, x4, y0, y1, y2, y3, y4⟩ := (K2.out.2.1).c
        have Z : Hid (_ ∧ _) := hidI (set_out (C := (w2).heap.size) (g := w.heap.size + 1) ((H.out.bel K2.out.2.2.1).weak (lowN_low (C := (w2).heap.size))) K2.out.2.2.1 (by omega) (K2.out.2.1).lt)
        have ZB : Hid _ := hidI ((K2.out.2.1).set (.int .i64 t.kind) (.int .i64 t.n) (.string ⟨t.s.toArray⟩) (.slice a1 t.keys.length c1) (.slice a2 t.l.length c2))
        have HA : Hid (movedR t frm dst = (t, 0)) := hidI (by unfold movedR; rw [HG.out]; simp only [ne_eq, not_true_eq_false, if_false, HPRE.out]; rw [if_neg (by simp), if_pos HDF.out])
        clear K2
        go_wp2_with fail
        obtain ⟨z0, z1, z2, z3, z4, -⟩ := ZB.out.c
        refine bodyPost_ret (v := .tuple #[.agg #[.int .i64 t.kind, .int .i64 t.n, .string ⟨t.s.toArray⟩, .slice a1 t.keys.length c1, .slice a2 t.l.length c2], .int .i64 0]) ?_ rfl ?_
        · simp only [set5] at z0 z1 z2 z3 z4
          simp [results, Tryd.results37, go_sem, z0, z1, z2, z3, z4]
        · refine ⟨_, by rw [HA.out], Z.out.1, ?_⟩
          rw [HA.out]
          exact Z.out.2
      · have q1 : (dst == frm) = false := by rw [beq_eq_false_iff_ne]; exact hdf
        have HDF := hidI hdf
        clear hdf
        obtain ⟨p0, p1, p2, p3, p4, -⟩ := K2.out.1.c
        go_wp2_with fail
        refine (remove_is _ (fun k => ok k ∧ k < w.heap.size) t _ frm (by exact H.out.bel K2.out.2.2.1) hf (by exact HMM.out.bel K2.out.2.2.1)).mono ?_
        rintro e w3 ⟨r, rfl, hb3, hr⟩
        obtain ⟨g, hg⟩ : ∃ g, changeR removedV (splitP frm) t = g := ⟨_, rfl⟩
        rw [hg] at hr ⊢
        obtain ⟨y, ye⟩ := g
        simp only at hr ⊢
        obtain ⟨a5, a6, c5, c6, rfl⟩ := hr.form
        have HC := hidI hg
        have hbb := bel_trans hb3 (bel_alloc w3 (.cells #[.int .i64 y.kind, .int .i64 y.n, .string ⟨y.s.toArray⟩, .slice a5 y.keys.length c5, .slice a6 y.l.length c6] 25))
        have hsz2 := K2.out.2.1.lt
        have hsz2b := K2.out.2.2.2.1.lt
        have hsz3 := hb3.size
        have K3 : Hid (BoxIs (w3.alloc (.cells #[.int .i64 y.kind, .int .i64 y.n, .string ⟨y.s.toArray⟩, .slice a5 y.keys.length c5, .slice a6 y.l.length c6] 25)) w.heap.size (.int .i64 t.kind) (.int .i64 t.n) (.string ⟨t.s.toArray⟩) (.slice a1 t.keys.length c1) (.slice a2 t.l.length c2) ∧ BoxIs (w3.alloc (.cells #[.int .i64 y.kind, .int .i64 y.n, .string ⟨y.s.toArray⟩, .slice a5 y.keys.length c5, .slice a6 y.l.length c6] 25)) (w.heap.size + 1) (.int .i64 0) (.int .i64 0) (.string ⟨#[]⟩) (.slice none 0 0) (.slice none 0 0) ∧ Below w.heap.size w (w3.alloc (.cells #[.int .i64 y.kind, .int .i64 y.n, .string ⟨y.s.toArray⟩, .slice a5 y.keys.length c5, .slice a6 y.l.length c6] 25)) ∧ BoxIs (w3.alloc (.cells #[.int .i64 y.kind, .int .i64 y.n, .string ⟨y.s.toArray⟩, .slice a5 y.keys.length c5, .slice a6 y.l.length c6] 25)) w1.heap.size (.int .i64 x.kind) (.int .i64 x.n) (.string ⟨x.s.toArray⟩) (.slice a7 x.keys.length c7) (.slice a8 x.l.length c8) ∧ In (w3.alloc (.cells #[.int .i64 y.kind, .int .i64 y.n, .string ⟨y.s.toArray⟩, .slice a5 y.keys.length c5, .slice a6 y.l.length c6] 25)) (fun k => lowN ok w.heap.size w2.heap.size k ∧ k < w3.heap.size) x (.agg #[.int .i64 x.kind, .int .i64 x.n, .string ⟨x.s.toArray⟩, .slice a7 x.keys.length c7, .slice a8 x.l.length c8]) ∧ BoxIs (w3.alloc (.cells #[.int .i64 y.kind, .int .i64 y.n, .string ⟨y.s.toArray⟩, .slice a5 y.keys.length c5, .slice a6 y.l.length c6] 25)) w3.heap.size (.int .i64 y.kind) (.int .i64 y.n) (.string ⟨y.s.toArray⟩) (.slice a5 y.keys.length c5) (.slice a6 y.l.length c6) ∧ In (w3.alloc (.cells #[.int .i64 y.kind, .int .i64 y.n, .string ⟨y.s.toArray⟩, .slice a5 y.keys.length c5, .slice a6 y.l.length c6] 25)) (fun k => lowN ok w.heap.size w2.heap.size k ∧ k < w3.heap.size) y (.agg #[.int .i64 y.kind, .int .i64 y.n, .string ⟨y.s.toArray⟩, .slice a5 y.keys.length c5, .slice a6 y.l.length c6])) := ⟨box_bel hbb K2.out.1, box_bel hbb K2.out.2.1, bel_trans K2.out.2.2.1 hbb, box_bel hbb K2.out.2.2.2.1, (K2.out.2.2.2.2.bel hbb).weak (fun k hk => ⟨lowN_low k hk, by omega⟩), heap_alloc_new w3 _, hr.low.bel (bel_alloc _ _)⟩
        clear hg hr hb3 hbb p0 p1 p2 p3 p4 K2
        by_cases hye : ye = 0
        · subst hye
          obtain ⟨r0, r1, r2, r3, r4, -⟩ := K3.out.2.2.2.1.c
          obtain ⟨s0, s1, s2, s3, s4, -⟩ := K3.out.2.2.2.2.2.1.c
          go_wp2_with fail
          refine (add_is _ (fun k => lowN ok w.heap.size w2.heap.size k ∧ k < w3.heap.size) y x _ _ dst (by exact K3.out.2.2.2.2.2.2) (by exact K3.out.2.2.2.2.1) hd (by exact HMM.out.bel K3.out.2.2.1)).mono ?_
          rintro e w4 ⟨r, rfl, hb4, hr⟩
          obtain ⟨g, hg⟩ : ∃ g, layR addedV dst (splitP dst) y x = g := ⟨_, rfl⟩
          rw [hg] at hr ⊢
          obtain ⟨z, ze⟩ := g
          simp only at hr ⊢
          obtain ⟨a3, a4, c3, c4, rfl⟩ := hr.form
          have HL := hidI hg
          have hsz4 := hb4.size
          have hszA : (w3.alloc (.cells #[.int .i64 y.kind, .int .i64 y.n, .string ⟨y.s.toArray⟩, .slice a5 y.keys.length c5, .slice a6 y.l.length c6] 25)).heap.size = w3.heap.size + 1 := by simp
          have bx4 := box_bel hb4 K3.out.2.2.2.2.2.1
          obtain ⟨s0, s1, s2, s3, s4, s5, s6, s7, s8, s9⟩ := bx4.c
          have g4 := set5_gb w4 w3.heap.size (.int .i64 z.kind) (.int .i64 z.n) (.string ⟨z.s.toArray⟩) (.slice a3 z.keys.length c3) (.slice a4 z.l.length c4)
          have K4 : Hid (BoxIs (set5 w4 w3.heap.size (.int .i64 z.kind) (.int .i64 z.n) (.string ⟨z.s.toArray⟩) (.slice a3 z.keys.length c3) (.slice a4 z.l.length c4)) w.heap.size (.int .i64 t.kind) (.int .i64 t.n) (.string ⟨t.s.toArray⟩) (.slice a1 t.keys.length c1) (.slice a2 t.l.length c2) ∧ BoxIs (set5 w4 w3.heap.size (.int .i64 z.kind) (.int .i64 z.n) (.string ⟨z.s.toArray⟩) (.slice a3 z.keys.length c3) (.slice a4 z.l.length c4)) (w.heap.size + 1) (.int .i64 0) (.int .i64 0) (.string ⟨#[]⟩) (.slice none 0 0) (.slice none 0 0) ∧ Below w.heap.size w (set5 w4 w3.heap.size (.int .i64 z.kind) (.int .i64 z.n) (.string ⟨z.s.toArray⟩) (.slice a3 z.keys.length c3) (.slice a4 z.l.length c4)) ∧ BoxIs (set5 w4 w3.heap.size (.int .i64 z.kind) (.int .i64 z.n) (.string ⟨z.s.toArray⟩) (.slice a3 z.keys.length c3) (.slice a4 z.l.length c4)) w3.heap.size (.int .i64 z.kind) (.int .i64 z.n) (.string ⟨z.s.toArray⟩) (.slice a3 z.keys.length c3) (.slice a4 z.l.length c4) ∧ In (set5 w4 w3.heap.size (.int .i64 z.kind) (.int .i64 z.n) (.string ⟨z.s.toArray⟩) (.slice a3 z.keys.length c3) (.slice a4 z.l.length c4)) (okN (fun k => lowN ok w.heap.size w2.heap.size k ∧ k < w3.heap.size) (w3.heap.size + 1)) z (.agg #[.int .i64 z.kind, .int .i64 z.n, .string ⟨z.s.toArray⟩, .slice a3 z.keys.length c3, .slice a4 z.l.length c4])) := by
            have hne : ∀ k, okN (fun k => lowN ok w.heap.size w2.heap.size k ∧ k < w3.heap.size) (w3.heap.size + 1) k → k ≠ w3.heap.size := by
              intro k hk e
              rcases hk with hk | hk <;> omega
            exact ⟨(box_bel hb4 K3.out.1).grown g4 (by simp; omega), (box_bel hb4 K3.out.2.1).grown g4 (by simp; omega), bel_set5 (bel_trans K3.out.2.2.1 hb4) (by omega) _ _ _ _ _, bx4.set _ _ _ _ _, (hr.weak (fun k hk => by rw [hszA] at hk; exact hk)).grown g4 hne⟩
          clear hg hr hb4 bx4 g4 r0 r1 r2 r3 r4 K3
          by_cases hze : ze = 0
          · subst hze
            have HA : Hid (movedR t frm dst = (z, 0)) := hidI (by unfold movedR; rw [HG.out, HC.out]; simp only [ne_eq, not_true_eq_false, if_false, HPRE.out, HL.out]; rw [if_neg (by simp), if_neg HDF.out])
            obtain ⟨n0, n1, n2, n3, n4, -⟩ := K4.out.2.2.2.1.c
            obtain ⟨x0, x1, x2, x3, x4, y0, y1, y2, y3, y4⟩ := K4.out.2.1.c
            have ZI := hidI ((K4.out.2.2.2.2.grown (set5_gb (set5 w4 w3.heap.size (.int .i64 z.kind) (.int .i64 z.n) (.string ⟨z.s.toArray⟩) (.slice a3 z.keys.length c3) (.slice a4 z.l.length c4)) (w.heap.size + 1) (.int .i64 z.kind) (.int .i64 z.n) (.string ⟨z.s.toArray⟩) (.slice a3 z.keys.length c3) (.slice a4 z.l.length c4)) (fun k hk e => by
              rcases hk with hk | hk
              · exact lowN_ne (by omega) hsz2 k hk.1 e
              · omega)).weak (ok' := okN ok w.heap.size) (fun k hk => by
              rcases hk with hk | hk
              · exact lowN_out (by omega) k hk.1
              · exact .inr (by omega)))
            have ZW := hidI (bel_set5 K4.out.2.2.1 (Nat.le_succ w.heap.size) (.int .i64 z.kind) (.int .i64 z.n) (.string ⟨z.s.toArray⟩) (.slice a3 z.keys.length c3) (.slice a4 z.l.length c4))
            have ZB := hidI (K4.out.2.1.set (.int .i64 z.kind) (.int .i64 z.n) (.string ⟨z.s.toArray⟩) (.slice a3 z.keys.length c3) (.slice a4 z.l.length c4))
            clear K4
            simp only [set5] at n0 n1 n2 n3 n4 x0 x1 x2 x3 x4 y0 y1 y2 y3 y4
            go_wp2_with fail
            obtain ⟨z0, z1, z2, z3, z4, -⟩ := ZB.out.c
            refine bodyPost_ret (v := .tuple #[.agg #[.int .i64 z.kind, .int .i64 z.n, .string ⟨z.s.toArray⟩, .slice a3 z.keys.length c3, .slice a4 z.l.length c4], .int .i64 0]) ?_ rfl ?_
            · simp only [set5] at z0 z1 z2 z3 z4
              simp [results, Tryd.results37, go_sem, z0, z1, z2, z3, z4]
            · refine ⟨_, by rw [HA.out], ZW.out, ?_⟩
              rw [HA.out]
              exact ZI.out
          · have e3 : (ze != 0) = true := by rw [bne_iff_ne]; exact hze
            have e4 : (ze == 0) = false := by rw [beq_eq_false_iff_ne]; exact hze
            have HZE := hidI hze
            clear hze
            obtain ⟨p0, p1, p2, p3, p4, -⟩ := (K4.out.1).c
            obtain ⟨x0, x1, x2, x3, x4, y0, y1, y2, y3, y4⟩ := (K4.out.2.1).c
            have Z : Hid (_ ∧ _) := hidI (set_out (C := ((set5 w4 w3.heap.size (.int .i64 z.kind) (.int .i64 z.n) (.string ⟨z.s.toArray⟩) (.slice a3 z.keys.length c3) (.slice a4 z.l.length c4))).heap.size) (g := w.heap.size + 1) ((H.out.bel K4.out.2.2.1).weak (lowN_low (C := ((set5 w4 w3.heap.size (.int .i64 z.kind) (.int .i64 z.n) (.string ⟨z.s.toArray⟩) (.slice a3 z.keys.length c3) (.slice a4 z.l.length c4))).heap.size))) K4.out.2.2.1 (by omega) (K4.out.2.1).lt)
            have ZB : Hid _ := hidI ((K4.out.2.1).set (.int .i64 t.kind) (.int .i64 t.n) (.string ⟨t.s.toArray⟩) (.slice a1 t.keys.length c1) (.slice a2 t.l.length c2))
            have HA : Hid (movedR t frm dst = (t, ze)) := hidI (by unfold movedR; rw [HG.out, HC.out]; simp only [ne_eq, not_true_eq_false, if_false, HPRE.out, HL.out]; rw [if_neg (by simp), if_neg HDF.out, if_pos HZE.out])
            clear K4
            simp only [set5] at p0 p1 p2 p3 p4 x0 x1 x2 x3 x4 y0 y1 y2 y3 y4
            go_wp2_with fail
            obtain ⟨z0, z1, z2, z3, z4, -⟩ := ZB.out.c
            refine bodyPost_ret (v := .tuple #[.agg #[.int .i64 t.kind, .int .i64 t.n, .string ⟨t.s.toArray⟩, .slice a1 t.keys.length c1, .slice a2 t.l.length c2], .int .i64 ze]) ?_ rfl ?_
            · simp only [set5] at z0 z1 z2 z3 z4
              simp [results, Tryd.results37, go_sem, z0, z1, z2, z3, z4]
            · refine ⟨_, by rw [HA.out], Z.out.1, ?_⟩
              rw [HA.out]
              exact Z.out.2
        · have e3 : (ye != 0) = true := by rw [bne_iff_ne]; exact hye
          have e4 : (ye == 0) = false := by rw [beq_eq_false_iff_ne]; exact hye
          have HYE := hidI hye
          clear hye
          obtain ⟨p0, p1, p2, p3, p4, -⟩ := (K3.out.1).c
          obtain ⟨x0, x1, x2, x3, x4, y0, y1, y2, y3, y4⟩ := (K3.out.2.1).c
          have Z : Hid (_ ∧ _) := hidI (set_out (C := ((w3.alloc (.cells #[.int .i64 y.kind, .int .i64 y.n, .string ⟨y.s.toArray⟩, .slice a5 y.keys.length c5, .slice a6 y.l.length c6] 25))).heap.size) (g := w.heap.size + 1) ((H.out.bel K3.out.2.2.1).weak (lowN_low (C := ((w3.alloc (.cells #[.int .i64 y.kind, .int .i64 y.n, .string ⟨y.s.toArray⟩, .slice a5 y.keys.length c5, .slice a6 y.l.length c6] 25))).heap.size))) K3.out.2.2.1 (by omega) (K3.out.2.1).lt)
          have ZB : Hid _ := hidI ((K3.out.2.1).set (.int .i64 t.kind) (.int .i64 t.n) (.string ⟨t.s.toArray⟩) (.slice a1 t.keys.length c1) (.slice a2 t.l.length c2))
          have HA : Hid (movedR t frm dst = (t, ye)) := hidI (by unfold movedR; rw [HG.out, HC.out]; simp only [ne_eq, not_true_eq_false, if_false, HPRE.out]; rw [if_neg (by simp), if_neg HDF.out, if_pos HYE.out])
          clear K3
          go_wp2_with fail
          obtain ⟨z0, z1, z2, z3, z4, -⟩ := ZB.out.c
          refine bodyPost_ret (v := .tuple #[.agg #[.int .i64 t.kind, .int .i64 t.n, .string ⟨t.s.toArray⟩, .slice a1 t.keys.length c1, .slice a2 t.l.length c2], .int .i64 ye]) ?_ rfl ?_
          · simp only [set5] at z0 z1 z2 z3 z4
            simp [results, Tryd.results37, go_sem, z0, z1, z2, z3, z4]
          · refine ⟨_, by rw [HA.out], Z.out.1, ?_⟩
            rw [HA.out]
            exact Z.out.2
  · have e1 : (xe != 0) = true := by rw [bne_iff_ne]; exact hxe
    have e2 : (xe == 0) = false := by rw [beq_eq_false_iff_ne]; exact hxe
    have HXE := hidI hxe
    clear hxe
    obtain ⟨p0, p1, p2, p3, p4, -⟩ := (K.out.1).c
    obtain ⟨x0, x1, x2, x3, x4, y0, y1, y2, y3, y4⟩ := (K.out.2.1).c
    have Z : Hid (_ ∧ _) := hidI (set_out (C := ((w1.alloc (.cells #[.int .i64 x.kind, .int .i64 x.n, .string ⟨x.s.toArray⟩, .slice a7 x.keys.length c7, .slice a8 x.l.length c8] 25))).heap.size) (g := w.heap.size + 1) ((H.out.bel K.out.2.2.1).weak (lowN_low (C := ((w1.alloc (.cells #[.int .i64 x.kind, .int .i64 x.n, .string ⟨x.s.toArray⟩, .slice a7 x.keys.length c7, .slice a8 x.l.length c8] 25))).heap.size))) K.out.2.2.1 (by omega) (K.out.2.1).lt)
    have ZB : Hid _ := hidI ((K.out.2.1).set (.int .i64 t.kind) (.int .i64 t.n) (.string ⟨t.s.toArray⟩) (.slice a1 t.keys.length c1) (.slice a2 t.l.length c2))
    have HA : Hid (movedR t frm dst = (t, xe)) := hidI (by unfold movedR; rw [HG.out, if_pos HXE.out])
    clear K
    go_wp2_with fail
    obtain ⟨z0, z1, z2, z3, z4, -⟩ := ZB.out.c
    refine bodyPost_ret (v := .tuple #[.agg #[.int .i64 t.kind, .int .i64 t.n, .string ⟨t.s.toArray⟩, .slice a1 t.keys.length c1, .slice a2 t.l.length c2], .int .i64 xe]) ?_ rfl ?_
    · simp only [set5] at z0 z1 z2 z3 z4
      simp [results, Tryd.results37, go_sem, z0, z1, z2, z3, z4]
    · refine ⟨_, by rw [HA.out], Z.out.1, ?_⟩
      rw [HA.out]
      exact Z.out.2

end Go.Proofs.YtaifciobaapehaaDoor

/- What copied of package patch does. -/
set_option linter.unusedSimpArgs false
set_option linter.unusedVariables false
namespace Go.Proofs.YtaifciobaapehaaDoor
open Go.RowKit

set_option maxRecDepth 100000 in
set_option maxHeartbeats 40000000 in
theorem copied_is (w : World) (ok : Nat → Prop) (t : V) (v : Value) (frm dst : List UInt8) (h : In w ok t v) (hf : frm.length ≤ 140737488351232) (hd : dst.length ≤ 140737488351232) (hM : GlobM w) :
    Calls Tryd.prog 38 #[v, str frm, str dst] w fun e w' => ∃ r, e = .returned (.tuple #[r, .int .i64 (copiedR t frm dst).2]) ∧ Below w.heap.size w w' ∧ In w' (okN ok w.heap.size) (copiedR t frm dst).1 r := by
  have H := hidI h.low
  have HMM := hidI hM
  obtain ⟨l1, l2, l3⟩ := h.lens
  obtain ⟨a1, a2, c1, c2, rfl⟩ := h.form
  clear h hM
  have B2 : Hid (∀ o1 o2, Below w.heap.size w ((w.alloc o1).alloc o2)) := fun o1 o2 => bel_trans (bel_alloc _ _) (bel_alloc _ _)
  unfold str
  go_enter Tryd.func38, Tryd.ntmps38
  go_wp2_with fail
  refine (get_is _ (fun k => ok k ∧ k < w.heap.size) t _ frm (by exact H.out.bel (B2.out _ _)) hf (by exact HMM.out.bel (B2.out _ _))).mono ?_
  rintro e w1 ⟨r, rfl, hb1, hr⟩
  obtain ⟨g, hg⟩ : ∃ g, getR (splitP frm) t = g := ⟨_, rfl⟩
  rw [hg] at hr ⊢
  obtain ⟨x, xe⟩ := g
  simp only at hr ⊢
  have HG := hidI hg
  obtain ⟨a7, a8, c7, c8, rfl⟩ := hr.form
  have hbb := bel_trans hb1 (bel_alloc w1 (.cells #[.int .i64 x.kind, .int .i64 x.n, .string ⟨x.s.toArray⟩, .slice a7 x.keys.length c7, .slice a8 x.l.length c8] 25))
  have K : Hid (BoxIs (w1.alloc (.cells #[.int .i64 x.kind, .int .i64 x.n, .string ⟨x.s.toArray⟩, .slice a7 x.keys.length c7, .slice a8 x.l.length c8] 25)) w.heap.size (.int .i64 t.kind) (.int .i64 t.n) (.string ⟨t.s.toArray⟩) (.slice a1 t.keys.length c1) (.slice a2 t.l.length c2) ∧ BoxIs (w1.alloc (.cells #[.int .i64 x.kind, .int .i64 x.n, .string ⟨x.s.toArray⟩, .slice a7 x.keys.length c7, .slice a8 x.l.length c8] 25)) (w.heap.size + 1) (.int .i64 0) (.int .i64 0) (.string ⟨#[]⟩) (.slice none 0 0) (.slice none 0 0) ∧ Below w.heap.size w (w1.alloc (.cells #[.int .i64 x.kind, .int .i64 x.n, .string ⟨x.s.toArray⟩, .slice a7 x.keys.length c7, .slice a8 x.l.length c8] 25)) ∧ BoxIs (w1.alloc (.cells #[.int .i64 x.kind, .int .i64 x.n, .string ⟨x.s.toArray⟩, .slice a7 x.keys.length c7, .slice a8 x.l.length c8] 25)) w1.heap.size (.int .i64 x.kind) (.int .i64 x.n) (.string ⟨x.s.toArray⟩) (.slice a7 x.keys.length c7) (.slice a8 x.l.length c8) ∧ In (w1.alloc (.cells #[.int .i64 x.kind, .int .i64 x.n, .string ⟨x.s.toArray⟩, .slice a7 x.keys.length c7, .slice a8 x.l.length c8] 25)) (fun k => ok k ∧ k < w.heap.size) x (.agg #[.int .i64 x.kind, .int .i64 x.n, .string ⟨x.s.toArray⟩, .slice a7 x.keys.length c7, .slice a8 x.l.length c8])) := ⟨box_bel hbb (h2a w _ _), box_bel hbb (h2b w _ _), bel_trans (B2.out _ _) hbb, heap_alloc_new w1 _, hr.bel (bel_alloc _ _)⟩
  clear hr hb1 hbb hg
  by_cases hxe : xe = 0
  · subst hxe
    have hnice : Hid (Nice x) := hidI (by obtain ⟨q1, q2, q3⟩ := get_good HG.out; exact nice_get _ _ _ (nice_of q1) q3)
    have hszA := K.out.2.1.lt
    have conT : Hid (∀ W, W.heap = (w1.alloc (.cells #[.int .i64 x.kind, .int .i64 x.n, .string ⟨x.s.toArray⟩, .slice a7 x.keys.length c7, .slice a8 x.l.length c8] 25)).heap → W.os = (w1.alloc (.cells #[.int .i64 x.kind, .int .i64 x.n, .string ⟨x.s.toArray⟩, .slice a7 x.keys.length c7, .slice a8 x.l.length c8] 25)).os → W.tape = (w1.alloc (.cells #[.int .i64 x.kind, .int .i64 x.n, .string ⟨x.s.toArray⟩, .slice a7 x.keys.length c7, .slice a8 x.l.length c8] 25)).tape → W.output = (w1.alloc (.cells #[.int .i64 x.kind, .int .i64 x.n, .string ⟨x.s.toArray⟩, .slice a7 x.keys.length c7, .slice a8 x.l.length c8] 25)).output → Calls Tryd.prog 61 #[.agg #[.int .i64 x.kind, .int .i64 x.n, .string ⟨x.s.toArray⟩, .slice a7 x.keys.length c7, .slice a8 x.l.length c8]] W fun e w' => ∃ b7 b8 d7 d8, e = .returned (.agg #[.int .i64 x.kind, .int .i64 x.n, .string ⟨x.s.toArray⟩, .slice b7 x.keys.length d7, .slice b8 x.l.length d8]) ∧ (In w' (fun k => (w1.alloc (.cells #[.int .i64 x.kind, .int .i64 x.n, .string ⟨x.s.toArray⟩, .slice a7 x.keys.length c7, .slice a8 x.l.length c8] 25)).heap.size ≤ k) x (.agg #[.int .i64 x.kind, .int .i64 x.n, .string ⟨x.s.toArray⟩, .slice b7 x.keys.length d7, .slice b8 x.l.length d8])) ∧ BoxIs w' w.heap.size (.int .i64 t.kind) (.int .i64 t.n) (.string ⟨t.s.toArray⟩) (.slice a1 t.keys.length c1) (.slice a2 t.l.length c2) ∧ BoxIs w' (w.heap.size + 1) (.int .i64 0) (.int .i64 0) (.string ⟨#[]⟩) (.slice none 0 0) (.slice none 0 0) ∧ Below w.heap.size w w') := by
      intro W e1 e2 e3 e4
      have hbW := bel_of0 e1 e2 e3 e4
      have hsz : W.heap.size = (w1.alloc (.cells #[.int .i64 x.kind, .int .i64 x.n, .string ⟨x.s.toArray⟩, .slice a7 x.keys.length c7, .slice a8 x.l.length c8] 25)).heap.size := by rw [e1]
      refine (twin_is W _ x _ (K.out.2.2.2.2.bel hbW) hnice.out).mono ?_
      rintro e w' ⟨r, rfl, hb, hr⟩
      obtain ⟨b7, b8, d7, d8, rfl⟩ := hr.form
      rw [hsz] at hr
      have hb' := bel_trans hbW hb
      exact ⟨b7, b8, d7, d8, rfl, hr, box_bel hb' K.out.1, box_bel hb' K.out.2.1, bel_trans K.out.2.2.1 hb'⟩
    have conA : Hid (∀ W b7 b8 d7 d8, In W (fun k => (w1.alloc (.cells #[.int .i64 x.kind, .int .i64 x.n, .string ⟨x.s.toArray⟩, .slice a7 x.keys.length c7, .slice a8 x.l.length c8] 25)).heap.size ≤ k) x (.agg #[.int .i64 x.kind, .int .i64 x.n, .string ⟨x.s.toArray⟩, .slice b7 x.keys.length d7, .slice b8 x.l.length d8]) → (BoxIs W w.heap.size (.int .i64 t.kind) (.int .i64 t.n) (.string ⟨t.s.toArray⟩) (.slice a1 t.keys.length c1) (.slice a2 t.l.length c2) ∧ BoxIs W (w.heap.size + 1) (.int .i64 0) (.int .i64 0) (.string ⟨#[]⟩) (.slice none 0 0) (.slice none 0 0) ∧ Below w.heap.size w W) → Calls Tryd.prog 10 #[.agg #[.int .i64 t.kind, .int .i64 t.n, .string ⟨t.s.toArray⟩, .slice a1 t.keys.length c1, .slice a2 t.l.length c2], .string ⟨dst.toArray⟩, .agg #[.int .i64 x.kind, .int .i64 x.n, .string ⟨x.s.toArray⟩, .slice b7 x.keys.length d7, .slice b8 x.l.length d8]] W fun e w' => ∃ (z : V) (a3 a4 : Option Addr) (c3 c4 : Nat) (ze : Int), e = .returned (.tuple #[.agg #[.int .i64 z.kind, .int .i64 z.n, .string ⟨z.s.toArray⟩, .slice a3 z.keys.length c3, .slice a4 z.l.length c4], .int .i64 ze]) ∧ BoxIs w' (w.heap.size + 1) (.int .i64 0) (.int .i64 0) (.string ⟨#[]⟩) (.slice none 0 0) (.slice none 0 0) ∧
        (copiedR t frm dst = (z, ze)) ∧ Below w.heap.size w (set5 w' (w.heap.size + 1) (.int .i64 z.kind) (.int .i64 z.n) (.string ⟨z.s.toArray⟩) (.slice a3 z.keys.length c3) (.slice a4 z.l.length c4)) ∧ In (set5 w' (w.heap.size + 1) (.int .i64 z.kind) (.int .i64 z.n) (.string ⟨z.s.toArray⟩) (.slice a3 z.keys.length c3) (.slice a4 z.l.length c4)) (okN ok w.heap.size) z (.agg #[.int .i64 z.kind, .int .i64 z.n, .string ⟨z.s.toArray⟩, .slice a3 z.keys.length c3, .slice a4 z.l.length c4]) ∧ BoxIs (set5 w' (w.heap.size + 1) (.int .i64 z.kind) (.int .i64 z.n) (.string ⟨z.s.toArray⟩) (.slice a3 z.keys.length c3) (.slice a4 z.l.length c4)) (w.heap.size + 1) (.int .i64 z.kind) (.int .i64 z.n) (.string ⟨z.s.toArray⟩) (.slice a3 z.keys.length c3) (.slice a4 z.l.length c4)) := by
      intro W b7 b8 d7 d8 he hW
      refine (add_is W (lowN ok w.heap.size (w1.alloc (.cells #[.int .i64 x.kind, .int .i64 x.n, .string ⟨x.s.toArray⟩, .slice a7 x.keys.length c7, .slice a8 x.l.length c8] 25)).heap.size) t x _ _ dst ((H.out.bel hW.2.2).weak lowN_low) (he.weak fun k hk => .inr hk) hd (HMM.out.bel hW.2.2)).mono ?_
      rintro e w' ⟨r, rfl, hb, hr⟩
      obtain ⟨g, hg⟩ : ∃ g, layR addedV dst (splitP dst) t x = g := ⟨_, rfl⟩
      rw [hg] at hr ⊢
      obtain ⟨z, ze⟩ := g
      simp only at hr ⊢
      obtain ⟨a3, a4, c3, c4, rfl⟩ := hr.form
      have hbx := box_bel hb hW.2.1
      have hszW := hW.2.1.lt
      have hgs := set5_gb w' (w.heap.size + 1) (.int .i64 z.kind) (.int .i64 z.n) (.string ⟨z.s.toArray⟩) (.slice a3 z.keys.length c3) (.slice a4 z.l.length c4)
      refine ⟨z, a3, a4, c3, c4, ze, rfl, hbx, by unfold copiedR; rw [HG.out]; simp only [ne_eq, not_true_eq_false, if_false]; exact hg, bel_set5 (bel_trans hW.2.2 hb) (Nat.le_succ _) _ _ _ _ _, ?_, hbx.set _ _ _ _ _⟩
      refine (hr.grown hgs ?_).weak ?_
      · intro k hk e
        rcases hk with hk | hk
        · exact lowN_ne (by omega) hszA k hk e
        · omega
      · intro k hk
        rcases hk with hk | hk
        · exact lowN_out (by omega) k hk
        · exact .inr (by omega)
    obtain ⟨p0, p1, p2, p3, p4, -⟩ := K.out.1.c
    obtain ⟨q0, q1, q2, q3, q4, -⟩ := K.out.2.2.2.1.c
    go_upto_region 4 with fail
    go_region_with (first
      | (go_at_call 61; refine (conT.out _ (by rfl) (by rfl) (by rfl) (by rfl)).mono ?_; rintro e wt ⟨b7, b8, d7, d8, rfl, hem, hkt⟩; clear p0 p1 p2 p3 p4; obtain ⟨p0, p1, p2, p3, p4, -⟩ := hkt.1.c; have EM := hidI hem; have KT := hidI hkt; clear hem hkt)
      | (go_at_call 10; refine (conA.out _ b7 b8 d7 d8 EM.out KT.out).mono ?_; rintro e wz ⟨z, a3, a4, c3, c4, ze, rfl, hbx, hR, hq1, hq2, hq3⟩; obtain ⟨x0, x1, x2, x3, x4, y0, y1, y2, y3, y4⟩ := hbx.c; have HA := hidI hR; have FIN : Hid (_ ∧ _ ∧ _) := ⟨hq1, hq2, hq3⟩; clear hR hq1 hq2 hq3 hbx))
    all_goals
      go_wp2_with fail
      obtain ⟨z0, z1, z2, z3, z4, -⟩ := FIN.out.2.2.c
      refine bodyPost_ret (v := .tuple #[.agg #[.int .i64 z.kind, .int .i64 z.n, .string ⟨z.s.toArray⟩, .slice a3 z.keys.length c3, .slice a4 z.l.length c4], .int .i64 ze]) ?_ rfl ?_
      · simp only [set5] at z0 z1 z2 z3 z4
        simp [results, Tryd.results38, go_sem, z0, z1, z2, z3, z4]
      · refine ⟨_, by rw [HA.out], FIN.out.1, ?_⟩
        rw [HA.out]
        exact FIN.out.2.1
  · have e1 : (xe != 0) = true := by rw [bne_iff_ne]; exact hxe
    have e2 : (xe == 0) = false := by rw [beq_eq_false_iff_ne]; exact hxe
    have HXE := hidI hxe
    clear hxe
    obtain ⟨p0, p1, p2, p3, p4, -⟩ := (K.out.1).c
    obtain ⟨x0, x1, x2, x3, x4, y0, y1, y2, y3, y4⟩ := (K.out.2.1).c
    have Z : Hid (_ ∧ _) := hidI (set_out (C := ((w1.alloc (.cells #[.int .i64 x.kind, .int .i64 x.n, .string ⟨x.s.toArray⟩, .slice a7 x.keys.length c7, .slice a8 x.l.length c8] 25))).heap.size) (g := w.heap.size + 1) ((H.out.bel K.out.2.2.1).weak (lowN_low (C := ((w1.alloc (.cells #[.int .i64 x.kind, .int .i64 x.n, .string ⟨x.s.toArray⟩, .slice a7 x.keys.length c7, .slice a8 x.l.length c8] 25))).heap.size))) K.out.2.2.1 (by omega) (K.out.2.1).lt)
    have ZB : Hid _ := hidI ((K.out.2.1).set (.int .i64 t.kind) (.int .i64 t.n) (.string ⟨t.s.toArray⟩) (.slice a1 t.keys.length c1) (.slice a2 t.l.length c2))
    have HA : Hid (copiedR t frm dst = (t, xe)) := hidI (by unfold copiedR; rw [HG.out, if_pos HXE.out])
    clear K
    go_wp2_with fail
    obtain ⟨z0, z1, z2, z3, z4, -⟩ := ZB.out.c
    refine bodyPost_ret (v := .tuple #[.agg #[.int .i64 t.kind, .int .i64 t.n, .string ⟨t.s.toArray⟩, .slice a1 t.keys.length c1, .slice a2 t.l.length c2], .int .i64 xe]) ?_ rfl ?_
    · simp only [set5] at z0 z1 z2 z3 z4
      simp [results, Tryd.results38, go_sem, z0, z1, z2, z3, z4]
    · refine ⟨_, by rw [HA.out], Z.out.1, ?_⟩
      rw [HA.out]
      exact Z.out.2
end Go.Proofs.YtaifciobaapehaaDoor

/- What One of package patch does, but for Test. -/
set_option linter.unusedSimpArgs false
set_option linter.unusedVariables false
namespace Go.Proofs.YtaifciobaapehaaDoor
open Go.RowKit

/- What is said of One, of an operation and a value. -/
def OneAt (f : V × Int) (o : OpT) (t : V) : Prop := ∀ (W : World) (ok : Nat → Prop) (v ov : Value), In W ok t v → OpIn W ok o ov → GlobM W →
    Calls Tryd.prog 21 #[v, ov] W fun e w' => ∃ r, e = .returned (.tuple #[r, .int .i64 f.2]) ∧ Below W.heap.size W w' ∧ In w' (okN ok W.heap.size) f.1 r

set_option maxRecDepth 100000 in
set_option maxHeartbeats 40000000 in
theorem one_add (o : OpT) (t : V) (hk : o.kind = 1) : OneAt (layR addedV o.path (splitP o.path) t o.value) o t := by
  intro w ok v ov h ho hM
  have H := hidI h.low
  have HMM := hidI hM
  obtain ⟨l1, l2, l3⟩ := h.lens
  obtain ⟨a1, a2, c1, c2, rfl⟩ := h.form
  obtain ⟨o1, o2, o3, a7, a8, c7, c8, rfl, hx⟩ := ho
  have HX := hidI hx.low
  have q1 : (o.kind == 1) = true := by rw [hk]; rfl
  clear h hM hx hk
  have B3 : Hid (∀ o1 o2 o3, Below w.heap.size w (((w.alloc o1).alloc o2).alloc o3)) := fun o1 o2 o3 => bel_trans (bel_trans (bel_alloc _ _) (bel_alloc _ _)) (bel_alloc _ _)
  go_enter Tryd.func21, Tryd.ntmps21
  go_wp2_with fail
  refine (add_is _ (fun k => ok k ∧ k < w.heap.size) t o.value _ _ o.path (by exact H.out.bel (B3.out _ _ _)) (by exact HX.out.bel (B3.out _ _ _)) o2 (by exact HMM.out.bel (B3.out _ _ _))).mono ?_
  rintro e w9 ⟨r, rfl, hb9, hr⟩
  obtain ⟨y, hy⟩ : ∃ y, layR addedV o.path (splitP o.path) t o.value = y := ⟨_, rfl⟩
  rw [hy] at hr ⊢
  obtain ⟨y, ye⟩ := y
  simp only at hr ⊢
  obtain ⟨a5, a6, c5, c6, rfl⟩ := hr.form
  have hbx := box_bel hb9 (h3c w _ _ _)
  obtain ⟨x0, x1, x2, x3, x4, y0, y1, y2, y3, y4⟩ := BoxIs.c hbx
  have Z : Hid (_ ∧ _) := hidI (set_out (g := w.heap.size + 2) hr (bel_trans (B3.out _ _ _) hb9) (by omega) (by simp))
  have ZB : Hid _ := hidI (BoxIs.set hbx (.int .i64 y.kind) (.int .i64 y.n) (.string ⟨y.s.toArray⟩) (.slice a5 y.keys.length c5) (.slice a6 y.l.length c6))
  have HA := hidI hy
  clear hy hr hb9 hbx
  go_wp2_with fail
  obtain ⟨z0, z1, z2, z3, z4, -⟩ := ZB.out.c
  refine bodyPost_ret (v := .tuple #[.agg #[.int .i64 y.kind, .int .i64 y.n, .string ⟨y.s.toArray⟩, .slice a5 y.keys.length c5, .slice a6 y.l.length c6], .int .i64 ye]) ?_ rfl ?_
  · simp only [set5] at z0 z1 z2 z3 z4
    simp [results, Tryd.results21, go_sem, z0, z1, z2, z3, z4]
  · exact ⟨_, by rw [HA.out], Z.out.1, by rw [HA.out]; exact Z.out.2⟩

set_option maxRecDepth 100000 in
set_option maxHeartbeats 40000000 in
theorem one_remove (o : OpT) (t : V) (hk : o.kind = 2) : OneAt (changeR removedV (splitP o.path) t) o t := by
  intro w ok v ov h ho hM
  have H := hidI h.low
  have HMM := hidI hM
  obtain ⟨l1, l2, l3⟩ := h.lens
  obtain ⟨a1, a2, c1, c2, rfl⟩ := h.form
  obtain ⟨o1, o2, o3, a7, a8, c7, c8, rfl, hx⟩ := ho
  have HX := hidI hx.low
  have q1 : (o.kind == 1) = false := by rw [hk]; rfl
  have q2 : (o.kind == 2) = true := by rw [hk]; rfl
  clear h hM hx hk
  have B3 : Hid (∀ o1 o2 o3, Below w.heap.size w (((w.alloc o1).alloc o2).alloc o3)) := fun o1 o2 o3 => bel_trans (bel_trans (bel_alloc _ _) (bel_alloc _ _)) (bel_alloc _ _)
  go_enter Tryd.func21, Tryd.ntmps21
  go_wp2_with fail
  refine (remove_is _ (fun k => ok k ∧ k < w.heap.size) t _ o.path (by exact H.out.bel (B3.out _ _ _)) o2 (by exact HMM.out.bel (B3.out _ _ _))).mono ?_
  rintro e w9 ⟨r, rfl, hb9, hr⟩
  obtain ⟨y, hy⟩ : ∃ y, changeR removedV (splitP o.path) t = y := ⟨_, rfl⟩
  rw [hy] at hr ⊢
  obtain ⟨y, ye⟩ := y
  simp only at hr ⊢
  obtain ⟨a5, a6, c5, c6, rfl⟩ := hr.form
  have hbx := box_bel hb9 (h3c w _ _ _)
  obtain ⟨x0, x1, x2, x3, x4, y0, y1, y2, y3, y4⟩ := BoxIs.c hbx
  have Z : Hid (_ ∧ _) := hidI (set_out (g := w.heap.size + 2) hr (bel_trans (B3.out _ _ _) hb9) (by omega) (by simp))
  have ZB : Hid _ := hidI (BoxIs.set hbx (.int .i64 y.kind) (.int .i64 y.n) (.string ⟨y.s.toArray⟩) (.slice a5 y.keys.length c5) (.slice a6 y.l.length c6))
  have HA := hidI hy
  clear hy hr hb9 hbx
  go_wp2_with fail
  obtain ⟨z0, z1, z2, z3, z4, -⟩ := ZB.out.c
  refine bodyPost_ret (v := .tuple #[.agg #[.int .i64 y.kind, .int .i64 y.n, .string ⟨y.s.toArray⟩, .slice a5 y.keys.length c5, .slice a6 y.l.length c6], .int .i64 ye]) ?_ rfl ?_
  · simp only [set5] at z0 z1 z2 z3 z4
    simp [results, Tryd.results21, go_sem, z0, z1, z2, z3, z4]
  · exact ⟨_, by rw [HA.out], Z.out.1, by rw [HA.out]; exact Z.out.2⟩

set_option maxRecDepth 100000 in
set_option maxHeartbeats 40000000 in
theorem one_replace (o : OpT) (t : V) (hk : o.kind = 3) : OneAt (layR replacedV o.path (splitP o.path) t o.value) o t := by
  intro w ok v ov h ho hM
  have H := hidI h.low
  have HMM := hidI hM
  obtain ⟨l1, l2, l3⟩ := h.lens
  obtain ⟨a1, a2, c1, c2, rfl⟩ := h.form
  obtain ⟨o1, o2, o3, a7, a8, c7, c8, rfl, hx⟩ := ho
  have HX := hidI hx.low
  have q1 : (o.kind == 1) = false := by rw [hk]; rfl
  have q2 : (o.kind == 2) = false := by rw [hk]; rfl
  have q3 : (o.kind == 3) = true := by rw [hk]; rfl
  clear h hM hx hk
  have B3 : Hid (∀ o1 o2 o3, Below w.heap.size w (((w.alloc o1).alloc o2).alloc o3)) := fun o1 o2 o3 => bel_trans (bel_trans (bel_alloc _ _) (bel_alloc _ _)) (bel_alloc _ _)
  go_enter Tryd.func21, Tryd.ntmps21
  go_wp2_with fail
  refine (put_is _ (fun k => ok k ∧ k < w.heap.size) t o.value _ _ o.path (by exact H.out.bel (B3.out _ _ _)) (by exact HX.out.bel (B3.out _ _ _)) o2 (by exact HMM.out.bel (B3.out _ _ _))).mono ?_
  rintro e w9 ⟨r, rfl, hb9, hr⟩
  obtain ⟨y, hy⟩ : ∃ y, layR replacedV o.path (splitP o.path) t o.value = y := ⟨_, rfl⟩
  rw [hy] at hr ⊢
  obtain ⟨y, ye⟩ := y
  simp only at hr ⊢
  obtain ⟨a5, a6, c5, c6, rfl⟩ := hr.form
  have hbx := box_bel hb9 (h3c w _ _ _)
  obtain ⟨x0, x1, x2, x3, x4, y0, y1, y2, y3, y4⟩ := BoxIs.c hbx
  have Z : Hid (_ ∧ _) := hidI (set_out (g := w.heap.size + 2) hr (bel_trans (B3.out _ _ _) hb9) (by omega) (by simp))
  have ZB : Hid _ := hidI (BoxIs.set hbx (.int .i64 y.kind) (.int .i64 y.n) (.string ⟨y.s.toArray⟩) (.slice a5 y.keys.length c5) (.slice a6 y.l.length c6))
  have HA := hidI hy
  clear hy hr hb9 hbx
  go_wp2_with fail
  obtain ⟨z0, z1, z2, z3, z4, -⟩ := ZB.out.c
  refine bodyPost_ret (v := .tuple #[.agg #[.int .i64 y.kind, .int .i64 y.n, .string ⟨y.s.toArray⟩, .slice a5 y.keys.length c5, .slice a6 y.l.length c6], .int .i64 ye]) ?_ rfl ?_
  · simp only [set5] at z0 z1 z2 z3 z4
    simp [results, Tryd.results21, go_sem, z0, z1, z2, z3, z4]
  · exact ⟨_, by rw [HA.out], Z.out.1, by rw [HA.out]; exact Z.out.2⟩

set_option maxRecDepth 100000 in
set_option maxHeartbeats 40000000 in
theorem one_move (o : OpT) (t : V) (hk : o.kind = 4) : OneAt (movedR t o.frm o.path) o t := by
  intro w ok v ov h ho hM
  have H := hidI h.low
  have HMM := hidI hM
  obtain ⟨l1, l2, l3⟩ := h.lens
  obtain ⟨a1, a2, c1, c2, rfl⟩ := h.form
  obtain ⟨o1, o2, o3, a7, a8, c7, c8, rfl, hx⟩ := ho
  have HX := hidI hx.low
  have q1 : (o.kind == 1) = false := by rw [hk]; rfl
  have q2 : (o.kind == 2) = false := by rw [hk]; rfl
  have q3 : (o.kind == 3) = false := by rw [hk]; rfl
  have q4 : (o.kind == 4) = true := by rw [hk]; rfl
  clear h hM hx hk
  have B3 : Hid (∀ o1 o2 o3, Below w.heap.size w (((w.alloc o1).alloc o2).alloc o3)) := fun o1 o2 o3 => bel_trans (bel_trans (bel_alloc _ _) (bel_alloc _ _)) (bel_alloc _ _)
  go_enter Tryd.func21, Tryd.ntmps21
  go_wp2_with fail
  refine (moved_is _ (fun k => ok k ∧ k < w.heap.size) t _ o.frm o.path (by exact H.out.bel (B3.out _ _ _)) o3 o2 (by exact HMM.out.bel (B3.out _ _ _))).mono ?_
  rintro e w9 ⟨r, rfl, hb9, hr⟩
  obtain ⟨y, hy⟩ : ∃ y, movedR t o.frm o.path = y := ⟨_, rfl⟩
  rw [hy] at hr ⊢
  obtain ⟨y, ye⟩ := y
  simp only at hr ⊢
  obtain ⟨a5, a6, c5, c6, rfl⟩ := hr.form
  have hbx := box_bel hb9 (h3c w _ _ _)
  obtain ⟨x0, x1, x2, x3, x4, y0, y1, y2, y3, y4⟩ := BoxIs.c hbx
  have Z : Hid (_ ∧ _) := hidI (set_out (g := w.heap.size + 2) hr (bel_trans (B3.out _ _ _) hb9) (by omega) (by simp))
  have ZB : Hid _ := hidI (BoxIs.set hbx (.int .i64 y.kind) (.int .i64 y.n) (.string ⟨y.s.toArray⟩) (.slice a5 y.keys.length c5) (.slice a6 y.l.length c6))
  have HA := hidI hy
  clear hy hr hb9 hbx
  go_wp2_with fail
  obtain ⟨z0, z1, z2, z3, z4, -⟩ := ZB.out.c
  refine bodyPost_ret (v := .tuple #[.agg #[.int .i64 y.kind, .int .i64 y.n, .string ⟨y.s.toArray⟩, .slice a5 y.keys.length c5, .slice a6 y.l.length c6], .int .i64 ye]) ?_ rfl ?_
  · simp only [set5] at z0 z1 z2 z3 z4
    simp [results, Tryd.results21, go_sem, z0, z1, z2, z3, z4]
  · exact ⟨_, by rw [HA.out], Z.out.1, by rw [HA.out]; exact Z.out.2⟩

set_option maxRecDepth 100000 in
set_option maxHeartbeats 40000000 in
theorem one_copy (o : OpT) (t : V) (hk : o.kind = 5) : OneAt (copiedR t o.frm o.path) o t := by
  intro w ok v ov h ho hM
  have H := hidI h.low
  have HMM := hidI hM
  obtain ⟨l1, l2, l3⟩ := h.lens
  obtain ⟨a1, a2, c1, c2, rfl⟩ := h.form
  obtain ⟨o1, o2, o3, a7, a8, c7, c8, rfl, hx⟩ := ho
  have HX := hidI hx.low
  have q1 : (o.kind == 1) = false := by rw [hk]; rfl
  have q2 : (o.kind == 2) = false := by rw [hk]; rfl
  have q3 : (o.kind == 3) = false := by rw [hk]; rfl
  have q4 : (o.kind == 4) = false := by rw [hk]; rfl
  have q5 : (o.kind == 5) = true := by rw [hk]; rfl
  clear h hM hx hk
  have B3 : Hid (∀ o1 o2 o3, Below w.heap.size w (((w.alloc o1).alloc o2).alloc o3)) := fun o1 o2 o3 => bel_trans (bel_trans (bel_alloc _ _) (bel_alloc _ _)) (bel_alloc _ _)
  go_enter Tryd.func21, Tryd.ntmps21
  go_wp2_with fail
  refine (copied_is _ (fun k => ok k ∧ k < w.heap.size) t _ o.frm o.path (by exact H.out.bel (B3.out _ _ _)) o3 o2 (by exact HMM.out.bel (B3.out _ _ _))).mono ?_
  rintro e w9 ⟨r, rfl, hb9, hr⟩
  obtain ⟨y, hy⟩ : ∃ y, copiedR t o.frm o.path = y := ⟨_, rfl⟩
  rw [hy] at hr ⊢
  obtain ⟨y, ye⟩ := y
  simp only at hr ⊢
  obtain ⟨a5, a6, c5, c6, rfl⟩ := hr.form
  have hbx := box_bel hb9 (h3c w _ _ _)
  obtain ⟨x0, x1, x2, x3, x4, y0, y1, y2, y3, y4⟩ := BoxIs.c hbx
  have Z : Hid (_ ∧ _) := hidI (set_out (g := w.heap.size + 2) hr (bel_trans (B3.out _ _ _) hb9) (by omega) (by simp))
  have ZB : Hid _ := hidI (BoxIs.set hbx (.int .i64 y.kind) (.int .i64 y.n) (.string ⟨y.s.toArray⟩) (.slice a5 y.keys.length c5) (.slice a6 y.l.length c6))
  have HA := hidI hy
  clear hy hr hb9 hbx
  go_wp2_with fail
  obtain ⟨z0, z1, z2, z3, z4, -⟩ := ZB.out.c
  refine bodyPost_ret (v := .tuple #[.agg #[.int .i64 y.kind, .int .i64 y.n, .string ⟨y.s.toArray⟩, .slice a5 y.keys.length c5, .slice a6 y.l.length c6], .int .i64 ye]) ?_ rfl ?_
  · simp only [set5] at z0 z1 z2 z3 z4
    simp [results, Tryd.results21, go_sem, z0, z1, z2, z3, z4]
  · exact ⟨_, by rw [HA.out], Z.out.1, by rw [HA.out]; exact Z.out.2⟩

set_option maxRecDepth 100000 in
set_option maxHeartbeats 40000000 in
theorem one_other (o : OpT) (t : V) (hk : ∀ i : Int, 1 ≤ i → i ≤ 6 → o.kind ≠ i) : OneAt (t, 9) o t := by
  intro w ok v ov h ho hM
  have H := hidI h.low
  obtain ⟨l1, l2, l3⟩ := h.lens
  obtain ⟨a1, a2, c1, c2, rfl⟩ := h.form
  obtain ⟨o1, o2, o3, a7, a8, c7, c8, rfl, hx⟩ := ho
  have q : ∀ i : Int, 1 ≤ i → i ≤ 6 → (o.kind == i) = false := fun i h1 h2 => by rw [beq_eq_false_iff_ne]; exact hk i h1 h2
  have q1 := q 1 (by omega) (by omega)
  have q2 := q 2 (by omega) (by omega)
  have q3 := q 3 (by omega) (by omega)
  have q4 := q 4 (by omega) (by omega)
  have q5 := q 5 (by omega) (by omega)
  have q6 := q 6 (by omega) (by omega)
  have HB : Hid (Below w.heap.size w (((w.alloc (.cells #[.int .i64 t.kind, .int .i64 t.n, .string ⟨t.s.toArray⟩, .slice a1 t.keys.length c1, .slice a2 t.l.length c2] 25)).alloc (.cells #[.int .i64 o.kind, .string ⟨o.path.toArray⟩, .string ⟨o.frm.toArray⟩, .int .i64 o.value.kind, .int .i64 o.value.n, .string ⟨o.value.s.toArray⟩, .slice a7 o.value.keys.length c7, .slice a8 o.value.l.length c8] 43)).alloc (.cells #[.int .i64 t.kind, .int .i64 t.n, .string ⟨t.s.toArray⟩, .slice a1 t.keys.length c1, .slice a2 t.l.length c2] 25))) := bel_trans (bel_trans (bel_alloc _ _) (bel_alloc _ _)) (bel_alloc _ _)
  have K := hidI ((H.out.bel HB.out).weak (low_out))
  clear h hM hx hk q
  go_enter Tryd.func21, Tryd.ntmps21
  go_wp2_with fail
  refine bodyPost_ret (v := .tuple #[.agg #[.int .i64 t.kind, .int .i64 t.n, .string ⟨t.s.toArray⟩, .slice a1 t.keys.length c1, .slice a2 t.l.length c2], .int .i64 9]) ?_ rfl ?_
  · simp [results, Tryd.results21, go_sem]
  · exact ⟨_, rfl, HB.out, K.out⟩
end Go.Proofs.YtaifciobaapehaaDoor

/- What All of package patch does. -/
set_option linter.unusedSimpArgs false
set_option linter.unusedVariables false
namespace Go.Proofs.YtaifciobaapehaaDoor
open Go.RowKit

/- One by one, till one cannot be done. -/
def runR (f : V → OpT → V × Int) : List OpT → V → V × Int
  | [], t => (t, 0)
  | o :: os, t => if (f t o).2 ≠ 0 then (t, (f t o).2) else runR f os (f t o).1
def allR (f : V → OpT → V × Int) (os : List OpT) (t : V) : V × Int :=
  if 20 < os.length then (t, 2) else if (runR f os t).2 ≠ 0 then (t, (runR f os t).2) else ((runR f os t).1, 0)
/- One does each as is said, where it comes to it. -/
def AllOk (f : V → OpT → V × Int) : List OpT → V → Prop
  | [], _ => True
  | o :: os, t => OneAt (f t o) o t ∧ ((f t o).2 = 0 → AllOk f os (f t o).1)
/- On the way. -/
def AllI (w : World) (ok : Nat → Prop) (f : V → OpT → V × Int) (os : List OpT) (t : V) (a1 a2 : Option Addr) (c1 c2 k : Nat) (wr : World) : Prop :=
  ∃ (y : V) (a5 a6 : Option Addr) (c5 c6 : Nat), runR f os t = runR f (os.drop k) y ∧ AllOk f (os.drop k) y ∧ BoxIs wr w.heap.size (.int .i64 t.kind) (.int .i64 t.n) (.string ⟨t.s.toArray⟩) (.slice a1 t.keys.length c1) (.slice a2 t.l.length c2) ∧ BoxIs wr (w.heap.size + 1) (.int .i64 0) (.int .i64 0) (.string ⟨#[]⟩) (.slice none 0 0) (.slice none 0 0) ∧ BoxIs wr (w.heap.size + 2) (.int .i64 y.kind) (.int .i64 y.n) (.string ⟨y.s.toArray⟩) (.slice a5 y.keys.length c5) (.slice a6 y.l.length c6) ∧ Below w.heap.size w wr ∧ In wr (lowN ok w.heap.size (w.heap.size + 3)) y (.agg #[.int .i64 y.kind, .int .i64 y.n, .string ⟨y.s.toArray⟩, .slice a5 y.keys.length c5, .slice a6 y.l.length c6])
theorem OpsAre.item {w : World} {ok : Nat → Prop} {os : List OpT} {a : Option Addr} {m c k : Nat} (h : OpsAre w ok os (.slice a m c)) (hk : k < os.length) : ∃ (b off : Nat) (a7 a8 : Option Addr) (c7 c8 : Nat), a = some ⟨b, off, none⟩ ∧ os.length ≤ c ∧ c ≤ 9223372036854775807 ∧
    w.cell? ⟨b, off + k * 8, none⟩ = some (.int .i64 os[k].kind) ∧ w.cell? ⟨b, off + k * 8 + 1, none⟩ = some (.string ⟨os[k].path.toArray⟩) ∧ w.cell? ⟨b, off + k * 8 + 2, none⟩ = some (.string ⟨os[k].frm.toArray⟩) ∧ w.cell? ⟨b, off + k * 8 + 3, none⟩ = some (.int .i64 os[k].value.kind) ∧
    w.cell? ⟨b, off + k * 8 + 4, none⟩ = some (.int .i64 os[k].value.n) ∧ w.cell? ⟨b, off + k * 8 + 5, none⟩ = some (.string ⟨os[k].value.s.toArray⟩) ∧ w.cell? ⟨b, off + k * 8 + 6, none⟩ = some (.slice a7 os[k].value.keys.length c7) ∧ w.cell? ⟨b, off + k * 8 + 7, none⟩ = some (.slice a8 os[k].value.l.length c8) ∧ OpIn w ok os[k] (.agg #[.int .i64 os[k].kind, .string ⟨os[k].path.toArray⟩, .string ⟨os[k].frm.toArray⟩, .int .i64 os[k].value.kind, .int .i64 os[k].value.n, .string ⟨os[k].value.s.toArray⟩, .slice a7 os[k].value.keys.length c7, .slice a8 os[k].value.l.length c8]) := by
  rcases h.2 with ⟨e, _⟩ | ⟨b, off, c', e, h1, h2, hcs⟩
  · rw [e] at hk; simp at hk
  · simp only [Value.slice.injEq] at e
    obtain ⟨rfl, -, rfl⟩ := e
    obtain ⟨v0, v1, v2, v3, v4, v5, v6, v7, -, g0, g1, g2, g3, g4, g5, g6, g7, g8⟩ := hcs k os[k] (List.getElem?_eq_getElem hk)
    have g9 := g8
    obtain ⟨o1, o2, o3, a7, a8, c7, c8, e, -⟩ := g8
    simp only [Value.agg.injEq, Array.mk.injEq, List.cons.injEq, and_true] at e
    obtain ⟨rfl, rfl, rfl, rfl, rfl, rfl, rfl, rfl⟩ := e
    exact ⟨b, off, a7, a8, c7, c8, rfl, h1, h2, g0, g1, g2, g3, g4, g5, g6, g7, g9⟩

set_option maxRecDepth 100000 in
set_option maxHeartbeats 40000000 in
theorem all_is (f : V → OpT → V × Int) (w : World) (ok : Nat → Prop) (t : V) (os : List OpT) (v ov : Value) (h : In w ok t v) (ho : OpsAre w ok os ov) (hM : GlobM w) (hok : os.length ≤ 20 → AllOk f os t) :
    Calls Tryd.prog 19 #[v, ov] w fun e w' => ∃ r, e = .returned (.tuple #[r, .int .i64 (allR f os t).2]) ∧ Below w.heap.size w w' ∧ In w' (okN ok w.heap.size) (allR f os t).1 r := by
  have H := hidI h.low
  have HMM := hidI hM
  have HOS := hidI ho
  have olen := ho.1
  obtain ⟨l1, l2, l3⟩ := h.lens
  obtain ⟨a1, a2, c1, c2, rfl⟩ := h.form
  obtain ⟨oa, oc, rfl⟩ := ho.form
  clear h hM ho
  by_cases h20 : 20 < os.length
  · have e0 : (20 : Int) < (os.length : Int) := by omega
    have HA : Hid (allR f os t = (t, 2)) := hidI (by unfold allR; rw [if_pos h20])
    have HB : Hid (Below w.heap.size w ((w.alloc (.cells #[.int .i64 t.kind, .int .i64 t.n, .string ⟨t.s.toArray⟩, .slice a1 t.keys.length c1, .slice a2 t.l.length c2] 25)).alloc (.cells #[.int .i64 t.kind, .int .i64 t.n, .string ⟨t.s.toArray⟩, .slice a1 t.keys.length c1, .slice a2 t.l.length c2] 25))) := bel_trans (bel_alloc _ _) (bel_alloc _ _)
    have K := hidI ((H.out.bel HB.out).weak (low_out))
    clear h20 hok
    go_enter Tryd.func19, Tryd.ntmps19
    go_wp2_with fail
    refine bodyPost_ret (v := .tuple #[.agg #[.int .i64 t.kind, .int .i64 t.n, .string ⟨t.s.toArray⟩, .slice a1 t.keys.length c1, .slice a2 t.l.length c2], .int .i64 2]) ?_ rfl ?_
    · simp [results, Tryd.results19, go_sem]
    · refine ⟨_, by rw [HA.out], HB.out, ?_⟩
      rw [HA.out]
      exact K.out
  · have e0 : ¬ ((20 : Int) < (os.length : Int)) := by omega
    have HR : Hid (allR f os t = if (runR f os t).2 ≠ 0 then (t, (runR f os t).2) else ((runR f os t).1, 0)) := hidI (by unfold allR; rw [if_neg h20])
    have B3 : Hid (∀ o1 o2 o3, Below w.heap.size w (((w.alloc o1).alloc o2).alloc o3)) := fun o1 o2 o3 => bel_trans (bel_trans (bel_alloc _ _) (bel_alloc _ _)) (bel_alloc _ _)
    have S0 : Hid (∀ W : World, W = ((w.alloc (.cells #[.int .i64 t.kind, .int .i64 t.n, .string ⟨t.s.toArray⟩, .slice a1 t.keys.length c1, .slice a2 t.l.length c2] 25)).alloc (.cells #[.int .i64 0, .int .i64 0, .string ⟨#[]⟩, .slice none 0 0, .slice none 0 0] 25)).alloc (.cells #[.int .i64 t.kind, .int .i64 t.n, .string ⟨t.s.toArray⟩, .slice a1 t.keys.length c1, .slice a2 t.l.length c2] 25) → AllI w ok f os t a1 a2 c1 c2 0 W) := by
      rintro W rfl
      exact ⟨t, a1, a2, c1, c2, rfl, hok (by omega), h3a w _ _ _, h3b w _ _ _, h3c w _ _ _, B3.out _ _ _, (H.out.bel (B3.out _ _ _)).weak lowN_low⟩
    clear hok h20
    go_enter Tryd.func19, Tryd.ntmps19
    go_wp2_with fail
    go_loopg [18] os.length (fun gk i wr => ∃ k : Nat, k ≤ os.length ∧ gk = os.length - k ∧ i = .int .i64 k ∧ AllI w ok f os t a1 a2 c1 c2 k wr)
    case atStart => exact ⟨0, Nat.zero_le _, rfl, rfl, S0.out _ rfl⟩
    case round =>
      obtain ⟨k, hk, hgk, rfl, y, a5, a6, c5, c6, i1, i2, i3, i4, i5, i6, i7⟩ := hrel
      have GK := hidI hgk
      have I : Hid (runR f os t = runR f (os.drop k) y ∧ AllOk f (os.drop k) y ∧ BoxIs wr w.heap.size (.int .i64 t.kind) (.int .i64 t.n) (.string ⟨t.s.toArray⟩) (.slice a1 t.keys.length c1) (.slice a2 t.l.length c2) ∧ BoxIs wr (w.heap.size + 1) (.int .i64 0) (.int .i64 0) (.string ⟨#[]⟩) (.slice none 0 0) (.slice none 0 0) ∧ BoxIs wr (w.heap.size + 2) (.int .i64 y.kind) (.int .i64 y.n) (.string ⟨y.s.toArray⟩) (.slice a5 y.keys.length c5) (.slice a6 y.l.length c6) ∧ Below w.heap.size w wr ∧ In wr (lowN ok w.heap.size (w.heap.size + 3)) y (.agg #[.int .i64 y.kind, .int .i64 y.n, .string ⟨y.s.toArray⟩, .slice a5 y.keys.length c5, .slice a6 y.l.length c6])) := ⟨i1, i2, i3, i4, i5, i6, i7⟩
      have hwsz := i5.lt
      clear hgk i1 i2 i3 i4 i5 i6 i7
      by_cases hlt : k < os.length
      · obtain ⟨b, off, a7, a8, c7, c8, rfl, hc1, hc2, g0, g1, g2, g3, g4, g5, g6, g7, g8⟩ := HOS.out.item hlt
        have OK := hidI (g8.low)
        replace g0 := cell_bel I.out.2.2.2.2.2.1 g0
        replace g1 := cell_bel I.out.2.2.2.2.2.1 g1
        replace g2 := cell_bel I.out.2.2.2.2.2.1 g2
        replace g3 := cell_bel I.out.2.2.2.2.2.1 g3
        replace g4 := cell_bel I.out.2.2.2.2.2.1 g4
        replace g5 := cell_bel I.out.2.2.2.2.2.1 g5
        replace g6 := cell_bel I.out.2.2.2.2.2.1 g6
        replace g7 := cell_bel I.out.2.2.2.2.2.1 g7
        have RS : Hid (runR f (os.drop k) y = if (f y os[k]).2 ≠ 0 then (y, (f y os[k]).2) else runR f (os.drop (k + 1)) (f y os[k]).1) := hidI (by rw [List.drop_eq_getElem_cons hlt, runR])
        have AO : Hid (OneAt (f y os[k]) os[k] y ∧ ((f y os[k]).2 = 0 → AllOk f (os.drop (k + 1)) (f y os[k]).1)) := hidI (by have := I.out.2.1; rw [List.drop_eq_getElem_cons hlt, AllOk] at this; exact this)
        have hb8 := bel_alloc wr (.cells #[.int .i64 os[k].kind, .string ⟨os[k].path.toArray⟩, .string ⟨os[k].frm.toArray⟩, .int .i64 os[k].value.kind, .int .i64 os[k].value.n, .string ⟨os[k].value.s.toArray⟩, .slice a7 os[k].value.keys.length c7, .slice a8 os[k].value.l.length c8] 43)
        obtain ⟨p0, p1, p2, p3, p4, -⟩ := (box_bel hb8 I.out.2.2.2.2.1).c
        clear g8
        go_wp2_with fail
        refine (AO.out.1 _ (lowN ok w.heap.size (w.heap.size + 3)) _ _ (by exact I.out.2.2.2.2.2.2.bel (bel_alloc _ _)) (by exact (OK.out.bel (bel_trans I.out.2.2.2.2.2.1 (bel_alloc _ _))).weak lowN_low) (by exact HMM.out.bel (bel_trans I.out.2.2.2.2.2.1 (bel_alloc _ _)))).mono ?_
        rintro e w2 ⟨r, rfl, hb2, hr⟩
        obtain ⟨q, hq⟩ : ∃ q, f y os[k] = q := ⟨_, rfl⟩
        rw [hq] at hr AO RS ⊢
        obtain ⟨z, ze⟩ := q
        simp only at hr AO RS ⊢
        obtain ⟨a3, a4, c3, c4, rfl⟩ := hr.form
        have hbb := bel_trans (bel_trans hb8 hb2) (bel_alloc w2 (.cells #[.int .i64 z.kind, .int .i64 z.n, .string ⟨z.s.toArray⟩, .slice a3 z.keys.length c3, .slice a4 z.l.length c4] 25))
        have hr' : In (w2.alloc (.cells #[.int .i64 z.kind, .int .i64 z.n, .string ⟨z.s.toArray⟩, .slice a3 z.keys.length c3, .slice a4 z.l.length c4] 25)) (lowN ok w.heap.size (w.heap.size + 3)) z (.agg #[.int .i64 z.kind, .int .i64 z.n, .string ⟨z.s.toArray⟩, .slice a3 z.keys.length c3, .slice a4 z.l.length c4]) := (hr.bel (bel_alloc _ _)).weak (fun j hj => by
          rcases hj with hj | hj
          · exact hj
          · have := hb8.size; exact .inr (by omega))
        have K : Hid (BoxIs (w2.alloc (.cells #[.int .i64 z.kind, .int .i64 z.n, .string ⟨z.s.toArray⟩, .slice a3 z.keys.length c3, .slice a4 z.l.length c4] 25)) w.heap.size (.int .i64 t.kind) (.int .i64 t.n) (.string ⟨t.s.toArray⟩) (.slice a1 t.keys.length c1) (.slice a2 t.l.length c2) ∧ BoxIs (w2.alloc (.cells #[.int .i64 z.kind, .int .i64 z.n, .string ⟨z.s.toArray⟩, .slice a3 z.keys.length c3, .slice a4 z.l.length c4] 25)) (w.heap.size + 1) (.int .i64 0) (.int .i64 0) (.string ⟨#[]⟩) (.slice none 0 0) (.slice none 0 0) ∧ BoxIs (w2.alloc (.cells #[.int .i64 z.kind, .int .i64 z.n, .string ⟨z.s.toArray⟩, .slice a3 z.keys.length c3, .slice a4 z.l.length c4] 25)) (w.heap.size + 2) (.int .i64 y.kind) (.int .i64 y.n) (.string ⟨y.s.toArray⟩) (.slice a5 y.keys.length c5) (.slice a6 y.l.length c6) ∧ Below w.heap.size w (w2.alloc (.cells #[.int .i64 z.kind, .int .i64 z.n, .string ⟨z.s.toArray⟩, .slice a3 z.keys.length c3, .slice a4 z.l.length c4] 25)) ∧ In (w2.alloc (.cells #[.int .i64 z.kind, .int .i64 z.n, .string ⟨z.s.toArray⟩, .slice a3 z.keys.length c3, .slice a4 z.l.length c4] 25)) (lowN ok w.heap.size (w.heap.size + 3)) z (.agg #[.int .i64 z.kind, .int .i64 z.n, .string ⟨z.s.toArray⟩, .slice a3 z.keys.length c3, .slice a4 z.l.length c4]) ∧ BoxIs (w2.alloc (.cells #[.int .i64 z.kind, .int .i64 z.n, .string ⟨z.s.toArray⟩, .slice a3 z.keys.length c3, .slice a4 z.l.length c4] 25)) w2.heap.size (.int .i64 z.kind) (.int .i64 z.n) (.string ⟨z.s.toArray⟩) (.slice a3 z.keys.length c3) (.slice a4 z.l.length c4)) := ⟨box_bel hbb I.out.2.2.1, box_bel hbb I.out.2.2.2.1, box_bel hbb I.out.2.2.2.2.1, bel_trans I.out.2.2.2.2.2.1 hbb, hr', heap_alloc_new w2 _⟩
        clear hq hr hr' hb2 hbb hb8 p0 p1 p2 p3 p4 g0 g1 g2 g3 g4 g5 g6 g7
        by_cases hze : ze = 0
        · subst hze
          have FIN : Hid (AllI w ok f os t a1 a2 c1 c2 (k + 1) (set5 (w2.alloc (.cells #[.int .i64 z.kind, .int .i64 z.n, .string ⟨z.s.toArray⟩, .slice a3 z.keys.length c3, .slice a4 z.l.length c4] 25)) (w.heap.size + 2) (.int .i64 z.kind) (.int .i64 z.n) (.string ⟨z.s.toArray⟩) (.slice a3 z.keys.length c3) (.slice a4 z.l.length c4))) := by
            have g1 := set5_gb (w2.alloc (.cells #[.int .i64 z.kind, .int .i64 z.n, .string ⟨z.s.toArray⟩, .slice a3 z.keys.length c3, .slice a4 z.l.length c4] 25)) (w.heap.size + 2) (.int .i64 z.kind) (.int .i64 z.n) (.string ⟨z.s.toArray⟩) (.slice a3 z.keys.length c3) (.slice a4 z.l.length c4)
            refine ⟨z, a3, a4, c3, c4, ?_, AO.out.2 rfl, K.out.1.grown g1 (by simp), K.out.2.1.grown g1 (by simp), K.out.2.2.1.set _ _ _ _ _, bel_set5 K.out.2.2.2.1 (by omega) _ _ _ _ _, K.out.2.2.2.2.1.box (by omega) (by omega) _ _ _ _ _⟩
            rw [I.out.1, RS.out]; simp
          obtain ⟨p0, p1, p2, p3, p4, p5, p6, p7, p8, p9⟩ := K.out.2.2.1.c
          obtain ⟨q0, q1, q2, q3, q4, -⟩ := K.out.2.2.2.2.2.c
          clear K
          go_wp2_with fail
          go_roundg (os.length - (k + 1))
          case measure => rw [GK.out]; omega
          case rel => exact ⟨k + 1, hlt, rfl, by go_num, FIN.out⟩
        · have e1 : (ze != 0) = true := by rw [bne_iff_ne]; exact hze
          have e2 : (ze == 0) = false := by rw [beq_eq_false_iff_ne]; exact hze
          have HZE := hidI hze
          clear hze
          obtain ⟨p0, p1, p2, p3, p4, -⟩ := (K.out.1).c
          obtain ⟨x0, x1, x2, x3, x4, y0, y1, y2, y3, y4⟩ := (K.out.2.1).c
          have Z : Hid (_ ∧ _) := hidI (set_out (C := ((w2.alloc (.cells #[.int .i64 z.kind, .int .i64 z.n, .string ⟨z.s.toArray⟩, .slice a3 z.keys.length c3, .slice a4 z.l.length c4] 25))).heap.size) (g := w.heap.size + 1) ((H.out.bel K.out.2.2.2.1).weak (lowN_low (C := ((w2.alloc (.cells #[.int .i64 z.kind, .int .i64 z.n, .string ⟨z.s.toArray⟩, .slice a3 z.keys.length c3, .slice a4 z.l.length c4] 25))).heap.size))) K.out.2.2.2.1 (by omega) (K.out.2.1).lt)
          have ZB : Hid _ := hidI ((K.out.2.1).set (.int .i64 t.kind) (.int .i64 t.n) (.string ⟨t.s.toArray⟩) (.slice a1 t.keys.length c1) (.slice a2 t.l.length c2))
          have HA : Hid (allR f os t = (t, ze)) := hidI (by rw [HR.out, I.out.1, RS.out, if_pos HZE.out]; simp only; rw [if_pos HZE.out])
          clear K
          go_wp2_with fail
          obtain ⟨z0, z1, z2, z3, z4, -⟩ := ZB.out.c
          refine bodyPost_ret (v := .tuple #[.agg #[.int .i64 t.kind, .int .i64 t.n, .string ⟨t.s.toArray⟩, .slice a1 t.keys.length c1, .slice a2 t.l.length c2], .int .i64 ze]) ?_ rfl ?_
          · simp only [set5] at z0 z1 z2 z3 z4
            simp [results, Tryd.results19, go_sem, z0, z1, z2, z3, z4]
          · refine ⟨_, by rw [HA.out], Z.out.1, ?_⟩
            rw [HA.out]
            exact Z.out.2
      · have hke : k = os.length := by omega
        subst hke
        have HA : Hid (allR f os t = (y, 0)) := hidI (by rw [HR.out, I.out.1, List.drop_length]; simp [runR])
        obtain ⟨p0, p1, p2, p3, p4, -⟩ := I.out.2.2.2.2.1.c
        obtain ⟨x0, x1, x2, x3, x4, y0, y1, y2, y3, y4⟩ := I.out.2.2.2.1.c
        have Z : Hid (_ ∧ _) := hidI (set_out (g := w.heap.size + 1) I.out.2.2.2.2.2.2 I.out.2.2.2.2.2.1 (by omega) (by omega))
        have ZB : Hid _ := hidI (I.out.2.2.2.1.set (.int .i64 y.kind) (.int .i64 y.n) (.string ⟨y.s.toArray⟩) (.slice a5 y.keys.length c5) (.slice a6 y.l.length c6))
        go_wp2_with fail
        obtain ⟨z0, z1, z2, z3, z4, -⟩ := ZB.out.c
        refine bodyPost_ret (v := .tuple #[.agg #[.int .i64 y.kind, .int .i64 y.n, .string ⟨y.s.toArray⟩, .slice a5 y.keys.length c5, .slice a6 y.l.length c6], .int .i64 0]) ?_ rfl ?_
        · simp only [set5] at z0 z1 z2 z3 z4
          simp [results, Tryd.results19, go_sem, z0, z1, z2, z3, z4]
        · refine ⟨_, by rw [HA.out], Z.out.1, ?_⟩
          rw [HA.out]
          exact Z.out.2
end Go.Proofs.YtaifciobaapehaaDoor

/- What test and One of package patch do, if Same of package json does what is said of it. -/
set_option linter.unusedSimpArgs false
set_option linter.unusedVariables false
namespace Go.Proofs.YtaifciobaapehaaDoor
open Go.RowKit

/- What is said of Same. -/
def SameJ : Prop := ∀ (w : World) (ok ok' : Nat → Prop) (a b : V) (va vb : Value), In w ok a va → In w ok' b vb → Nice a →
    Calls Tryd.prog 62 #[va, vb] w fun e w' => ∃ r, e = .returned (.bool r) ∧ (r = true ↔ a = b) ∧ Below w.heap.size w w'
open Classical in
noncomputable def testR (t : V) (p : List UInt8) (x : V) : Int := if (getR (splitP p) t).2 ≠ 0 then (getR (splitP p) t).2 else if (getR (splitP p) t).1 = x then 0 else 4

set_option maxRecDepth 100000 in
set_option maxHeartbeats 40000000 in
theorem test_is (hS : SameJ) (w : World) (ok : Nat → Prop) (t x : V) (v xv : Value) (p : List UInt8) (h : In w ok t v) (hx : In w ok x xv) (hp : p.length ≤ 140737488351232) (hM : GlobM w) :
    Calls Tryd.prog 39 #[v, str p, xv] w fun e w' => e = .returned (.int .i64 (testR t p x)) ∧ Below w.heap.size w w' := by
  have H := hidI h
  have HX := hidI hx
  have HS := hidI hS
  have HMM := hidI hM
  obtain ⟨l1, l2, l3⟩ := h.lens
  obtain ⟨a1, a2, c1, c2, rfl⟩ := h.form
  obtain ⟨a7, a8, c7, c8, rfl⟩ := hx.form
  clear h hx hM hS
  have B2 : Hid (∀ o1 o2, Below w.heap.size w ((w.alloc o1).alloc o2)) := fun o1 o2 => bel_trans (bel_alloc _ _) (bel_alloc _ _)
  go_enter Tryd.func39, Tryd.ntmps39
  go_wp2_with fail
  refine (get_is _ ok t _ p (by exact H.out.bel (B2.out _ _)) hp (by exact HMM.out.bel (B2.out _ _))).mono ?_
  rintro e w1 ⟨r, rfl, hb1, hr⟩
  obtain ⟨g, hg⟩ : ∃ g, getR (splitP p) t = g := ⟨_, rfl⟩
  rw [hg] at hr ⊢
  obtain ⟨y, ye⟩ := g
  simp only at hr ⊢
  obtain ⟨a5, a6, c5, c6, rfl⟩ := hr.form
  have HG := hidI hg
  have hbb := bel_trans hb1 (bel_alloc w1 (.cells #[.int .i64 y.kind, .int .i64 y.n, .string ⟨y.s.toArray⟩, .slice a5 y.keys.length c5, .slice a6 y.l.length c6] 25))
  have K : Hid (BoxIs (w1.alloc (.cells #[.int .i64 y.kind, .int .i64 y.n, .string ⟨y.s.toArray⟩, .slice a5 y.keys.length c5, .slice a6 y.l.length c6] 25)) (w.heap.size + 1) (.int .i64 x.kind) (.int .i64 x.n) (.string ⟨x.s.toArray⟩) (.slice a7 x.keys.length c7) (.slice a8 x.l.length c8) ∧ BoxIs (w1.alloc (.cells #[.int .i64 y.kind, .int .i64 y.n, .string ⟨y.s.toArray⟩, .slice a5 y.keys.length c5, .slice a6 y.l.length c6] 25)) w1.heap.size (.int .i64 y.kind) (.int .i64 y.n) (.string ⟨y.s.toArray⟩) (.slice a5 y.keys.length c5) (.slice a6 y.l.length c6) ∧ In (w1.alloc (.cells #[.int .i64 y.kind, .int .i64 y.n, .string ⟨y.s.toArray⟩, .slice a5 y.keys.length c5, .slice a6 y.l.length c6] 25)) ok y (.agg #[.int .i64 y.kind, .int .i64 y.n, .string ⟨y.s.toArray⟩, .slice a5 y.keys.length c5, .slice a6 y.l.length c6]) ∧ Below w.heap.size w (w1.alloc (.cells #[.int .i64 y.kind, .int .i64 y.n, .string ⟨y.s.toArray⟩, .slice a5 y.keys.length c5, .slice a6 y.l.length c6] 25))) := ⟨box_bel hbb (h2b w _ _), heap_alloc_new w1 _, hr.bel (bel_alloc _ _), bel_trans (B2.out _ _) hbb⟩
  clear hg hr hb1 hbb
  by_cases hye : ye = 0
  · subst hye
    have hnice : Hid (Nice y) := hidI (by obtain ⟨q1, q2, q3⟩ := get_good HG.out; exact nice_get _ _ _ (nice_of q1) q3)
    obtain ⟨p0, p1, p2, p3, p4, -⟩ := K.out.1.c
    obtain ⟨r0, r1, r2, r3, r4, -⟩ := K.out.2.1.c
    go_wp2_with fail
    refine (HS.out _ ok ok y x _ _ (by exact K.out.2.2.1) (by exact HX.out.bel K.out.2.2.2) hnice.out).mono ?_
    rintro e w2 ⟨b, rfl, hbi, hb2⟩
    have B3 := hidI (bel_trans K.out.2.2.2 hb2)
    clear hb2 p0 p1 p2 p3 p4 r0 r1 r2 r3 r4 K
    cases b with
    | true =>
      have HR : Hid (testR t p x = 0) := hidI (by unfold testR; rw [HG.out]; simp [hbi.1 rfl])
      clear hbi
      go_wp2_with fail
      go_ret
      exact ⟨by rw [HR.out]; rfl, B3.out⟩
    | false =>
      have HR : Hid (testR t p x = 4) := hidI (by
        have : ¬ y = x := fun e => by have := hbi.2 e; cases this
        unfold testR; rw [HG.out]; simp [this])
      clear hbi
      go_wp2_with fail
      go_ret
      exact ⟨by rw [HR.out]; rfl, B3.out⟩
  · have e1 : (ye != 0) = true := by rw [bne_iff_ne]; exact hye
    have e2 : (ye == 0) = false := by rw [beq_eq_false_iff_ne]; exact hye
    have HR : Hid (testR t p x = ye) := hidI (by unfold testR; rw [HG.out]; simp [hye])
    clear hye
    go_wp2_with fail
    go_ret
    exact ⟨by rw [HR.out]; rfl, K.out.2.2.2⟩

set_option maxRecDepth 100000 in
set_option maxHeartbeats 40000000 in
theorem one_test (hS : SameJ) (o : OpT) (t : V) (hk : o.kind = 6) : OneAt (t, testR t o.path o.value) o t := by
  intro w ok v ov h ho hM
  have H := hidI h.low
  have HMM := hidI hM
  have HS := hidI hS
  obtain ⟨l1, l2, l3⟩ := h.lens
  obtain ⟨a1, a2, c1, c2, rfl⟩ := h.form
  obtain ⟨o1, o2, o3, a7, a8, c7, c8, rfl, hx⟩ := ho
  have HX := hidI hx.low
  have q1 : (o.kind == 1) = false := by rw [hk]; rfl
  have q2 : (o.kind == 2) = false := by rw [hk]; rfl
  have q3 : (o.kind == 3) = false := by rw [hk]; rfl
  have q4 : (o.kind == 4) = false := by rw [hk]; rfl
  have q5 : (o.kind == 5) = false := by rw [hk]; rfl
  have q6 : (o.kind == 6) = true := by rw [hk]; rfl
  clear h hM hx hk hS
  have con : Hid (∀ W, W.heap = (((w.alloc (.cells #[.int .i64 t.kind, .int .i64 t.n, .string ⟨t.s.toArray⟩, .slice a1 t.keys.length c1, .slice a2 t.l.length c2] 25)).alloc (.cells #[.int .i64 o.kind, .string ⟨o.path.toArray⟩, .string ⟨o.frm.toArray⟩, .int .i64 o.value.kind, .int .i64 o.value.n, .string ⟨o.value.s.toArray⟩, .slice a7 o.value.keys.length c7, .slice a8 o.value.l.length c8] 43)).alloc (.cells #[.int .i64 0, .int .i64 0, .string ⟨#[]⟩, .slice none 0 0, .slice none 0 0] 25)).heap → W.os = w.os → W.tape = w.tape → W.output = w.output →
      Calls Tryd.prog 39 #[.agg #[.int .i64 t.kind, .int .i64 t.n, .string ⟨t.s.toArray⟩, .slice a1 t.keys.length c1, .slice a2 t.l.length c2], .string ⟨o.path.toArray⟩, .agg #[.int .i64 o.value.kind, .int .i64 o.value.n, .string ⟨o.value.s.toArray⟩, .slice a7 o.value.keys.length c7, .slice a8 o.value.l.length c8]] W fun e w' => e = .returned (.int .i64 (testR t o.path o.value)) ∧ BoxIs w' w.heap.size (.int .i64 t.kind) (.int .i64 t.n) (.string ⟨t.s.toArray⟩) (.slice a1 t.keys.length c1) (.slice a2 t.l.length c2) ∧ BoxIs w' (w.heap.size + 2) (.int .i64 0) (.int .i64 0) (.string ⟨#[]⟩) (.slice none 0 0) (.slice none 0 0) ∧ Below w.heap.size w w') := by
    intro W e1 e2 e3 e4
    have hbW := bel_of3 e1 e2 e3 e4
    refine (test_is HS.out W (fun k => ok k ∧ k < w.heap.size) t o.value _ _ o.path (H.out.bel hbW) (HX.out.bel hbW) o2 (HMM.out.bel hbW)).mono ?_
    rintro e w' ⟨rfl, hb⟩
    exact ⟨rfl, box_bel hb (by unfold BoxIs; rw [e1]; exact h3a w _ _ _), box_bel hb (by unfold BoxIs; rw [e1]; exact h3c w _ _ _), bel_trans hbW hb⟩
  go_enter Tryd.func21, Tryd.ntmps21
  go_upto_region 13 with fail
  go_region_with ((go_at_call 39; refine (con.out _ (by rfl) (by rfl) (by rfl) (by rfl)).mono ?_; rintro e w2 ⟨rfl, k1, k2, k3⟩; obtain ⟨p0, p1, p2, p3, p4, -⟩ := k1.c; obtain ⟨x0, x1, x2, x3, x4, y0, y1, y2, y3, y4⟩ := k2.c; have Z := hidI (set_out (C := w2.heap.size) (g := w.heap.size + 2) ((H.out.bel k3).weak (lowN_low (C := w2.heap.size))) k3 (by omega) k2.lt); have ZB := hidI (k2.set (.int .i64 t.kind) (.int .i64 t.n) (.string ⟨t.s.toArray⟩) (.slice a1 t.keys.length c1) (.slice a2 t.l.length c2)); clear k1 k2 k3))
  all_goals
    go_wp2_with fail
    obtain ⟨z0, z1, z2, z3, z4, -⟩ := ZB.out.c
    refine bodyPost_ret (v := .tuple #[.agg #[.int .i64 t.kind, .int .i64 t.n, .string ⟨t.s.toArray⟩, .slice a1 t.keys.length c1, .slice a2 t.l.length c2], .int .i64 (testR t o.path o.value)]) ?_ rfl ?_
    · simp only [set5] at z0 z1 z2 z3 z4
      simp [results, Tryd.results21, go_sem, z0, z1, z2, z3, z4]
    · exact ⟨_, rfl, Z.out.1, Z.out.2⟩

/- What One answers. -/
noncomputable def oneR (t : V) (o : OpT) : V × Int :=
  if o.kind = 1 then layR addedV o.path (splitP o.path) t o.value else if o.kind = 2 then changeR removedV (splitP o.path) t else if o.kind = 3 then layR replacedV o.path (splitP o.path) t o.value
  else if o.kind = 4 then movedR t o.frm o.path else if o.kind = 5 then copiedR t o.frm o.path else if o.kind = 6 then (t, testR t o.path o.value) else (t, 9)
theorem one_is (hS : SameJ) (t : V) (o : OpT) : OneAt (oneR t o) o t := by
  unfold oneR
  split
  · exact one_add o t (by assumption)
  split
  · exact one_remove o t (by assumption)
  split
  · exact one_replace o t (by assumption)
  split
  · exact one_move o t (by assumption)
  split
  · exact one_copy o t (by assumption)
  split
  · exact one_test hS o t (by assumption)
  · refine one_other o t fun i h1 h2 => ?_
    rcases (show i = 1 ∨ i = 2 ∨ i = 3 ∨ i = 4 ∨ i = 5 ∨ i = 6 by omega) with rfl | rfl | rfl | rfl | rfl | rfl <;> assumption
/- What is done is good. -/
end Go.Proofs.YtaifciobaapehaaDoor

/- What text, kindOf and operation of package patch do. -/
set_option linter.unusedSimpArgs false
set_option linter.unusedVariables false
namespace Go.Proofs.YtaifciobaapehaaDoor
open Go.RowKit

/- The words, in memory. -/
end Go.Proofs.YtaifciobaapehaaDoor

/- What operation of package patch does. -/
set_option linter.unusedSimpArgs false
set_option linter.unusedVariables false
namespace Go.Proofs.YtaifciobaapehaaDoor
open Go.RowKit

/- An operation's box. -/
def OBox (w : World) (g : Nat) (u0 u1 u2 v0 v1 v2 v3 v4 : Value) : Prop := w.heap[g]? = some (.cells #[u0, u1, u2, v0, v1, v2, v3, v4] 43)
theorem OBox.c {w : World} {g : Nat} {u0 u1 u2 v0 v1 v2 v3 v4 : Value} (h : OBox w g u0 u1 u2 v0 v1 v2 v3 v4) : (w.cell? ⟨g, 0, none⟩ = some u0 ∧ w.cell? ⟨g, 1, none⟩ = some u1 ∧ w.cell? ⟨g, 2, none⟩ = some u2 ∧ w.cell? ⟨g, 3, none⟩ = some v0 ∧ w.cell? ⟨g, 4, none⟩ = some v1 ∧ w.cell? ⟨g, 5, none⟩ = some v2 ∧ w.cell? ⟨g, 6, none⟩ = some v3 ∧ w.cell? ⟨g, 7, none⟩ = some v4) ∧ ∀ i, w.frozen? ⟨g, i, none⟩ = false := by
  unfold OBox at h
  refine ⟨⟨?_, ?_, ?_, ?_, ?_, ?_, ?_, ?_⟩, fun i => ?_⟩ <;> simp [World.cell?, World.frozen?, h]
theorem OBox.bel {w w' : World} {g : Nat} {u0 u1 u2 v0 v1 v2 v3 v4 : Value} (h : OBox w g u0 u1 u2 v0 v1 v2 v3 v4) (hb : Below w.heap.size w w') : OBox w' g u0 u1 u2 v0 v1 v2 v3 v4 := (hb.block g (Array.getElem?_eq_some_iff.1 h).1).trans h
def set8 (w : World) (g : Nat) (u0 u1 u2 v0 v1 v2 v3 v4 : Value) : World :=
  (((((((w.setCell ⟨g, 0, none⟩ u0).setCell ⟨g, 1, none⟩ u1).setCell ⟨g, 2, none⟩ u2).setCell ⟨g, 3, none⟩ v0).setCell ⟨g, 4, none⟩ v1).setCell ⟨g, 5, none⟩ v2).setCell ⟨g, 6, none⟩ v3).setCell ⟨g, 7, none⟩ v4
theorem OBox.set {w : World} {g : Nat} {u0 u1 u2 v0 v1 v2 v3 v4 : Value} (h : OBox w g u0 u1 u2 v0 v1 v2 v3 v4) (s0 s1 s2 x0 x1 x2 x3 x4 : Value) : OBox (set8 w g s0 s1 s2 x0 x1 x2 x3 x4) g s0 s1 s2 x0 x1 x2 x3 x4 := by
  unfold OBox at h ⊢
  unfold set8
  have e := heap_set (heap_set (heap_set (heap_set (heap_set (heap_set (heap_set (heap_set h 0 s0) 1 s1) 2 s2) 3 x0) 4 x1) 5 x2) 6 x3) 7 x4
  simpa using e
theorem OBox.grown {w w' : World} {g : Nat} {u0 u1 u2 v0 v1 v2 v3 v4 : Value} {r : Option Nat} (h : OBox w g u0 u1 u2 v0 v1 v2 v3 v4) (hg : w.grownBy w' r) (hr : some g ≠ r) : OBox w' g u0 u1 u2 v0 v1 v2 v3 v4 := (hg.block g (Array.getElem?_eq_some_iff.1 h).1 hr).trans h
/- What operation answers. -/
end Go.Proofs.YtaifciobaapehaaDoor

/- What SameValue of package stairwellref does. -/
set_option linter.unusedSimpArgs false
set_option linter.unusedVariables false
namespace Go.Proofs.YtaifciobaapehaaDoor
open Go.RowKit

def RSameC (d : Nat) : Prop := ∀ (w : World) (ok ok' : Nat → Prop) (a b : V) (va vb : Value), VIs w ok d a va → VIs w ok' d b vb →
    Calls Tryd.prog 9 #[va, vb] w fun e w' => e = .returned (.bool (sameS d a b)) ∧ Below w.heap.size w w'

set_option maxRecDepth 100000 in
set_option maxHeartbeats 8000000 in
theorem rsame_succ (d : Nat) (ih : RSameC d) : RSameC (d + 1) := by
  intro w ok ok' a b va vb ha hb
  obtain ⟨a1, a2, c1, c2, rfl⟩ := ha.shape
  obtain ⟨b1, b2, d1, d2, rfl⟩ := hb.shape
  have IH := hidI ih
  have lA : a.keys.length ≤ maxLen ∧ a.l.length ≤ maxLen := by obtain ⟨ks, ls, e, h1, h2, h3, h4, h5⟩ := ha; exact ⟨h4.1, h5.1⟩
  have lB : b.keys.length ≤ maxLen ∧ b.l.length ≤ maxLen := by obtain ⟨ks, ls, e, h1, h2, h3, h4, h5⟩ := hb; exact ⟨h4.1, h5.1⟩
  unfold maxLen at lA lB
  obtain ⟨lA1, lA2⟩ := lA
  obtain ⟨lB1, lB2⟩ := lB
  have HA := hidI ha
  have HB := hidI hb
  clear ha hb ih
  by_cases hk : ¬ (a.kind = b.kind)
  · have F : Hid (sameS (d + 1) a b = false) := hidI (by simp [sameS, hk])
    have Ehk : (a.kind == b.kind) = false := by rw [beq_eq_false_iff_ne]; exact hk
    have Nhk : (a.kind != b.kind) = true := by simp [bne, Ehk]
    go_enter Tryd.func9, Tryd.ntmps9
    go_wp2_with fail
    all_goals
      go_ret
      rw [F.out]
      exact ⟨rfl, bel_trans (bel_alloc _ _) (bel_alloc _ _)⟩
  rw [Decidable.not_not] at hk
  by_cases hn : ¬ (a.n = b.n)
  · have F : Hid (sameS (d + 1) a b = false) := hidI (by simp [sameS, hn])
    have Ehk : (a.kind == b.kind) = true := by rw [beq_iff_eq]; exact hk
    have Ehn : (a.n == b.n) = false := by rw [beq_eq_false_iff_ne]; exact hn
    have Nhn : (a.n != b.n) = true := by simp [bne, Ehn]
    clear hk
    go_enter Tryd.func9, Tryd.ntmps9
    go_wp2_with fail
    all_goals
      go_ret
      rw [F.out]
      exact ⟨rfl, bel_trans (bel_alloc _ _) (bel_alloc _ _)⟩
  rw [Decidable.not_not] at hn
  by_cases hs : ¬ (a.s = b.s)
  · have F : Hid (sameS (d + 1) a b = false) := hidI (by simp [sameS, hs])
    have Ehk : (a.kind == b.kind) = true := by rw [beq_iff_eq]; exact hk
    have Ehn : (a.n == b.n) = true := by rw [beq_iff_eq]; exact hn
    have Ehs : (ByteArray.mk a.s.toArray == ByteArray.mk b.s.toArray) = false := ba_ne (by simpa using hs)
    have Nhs : (ByteArray.mk a.s.toArray != ByteArray.mk b.s.toArray) = true := by simp [bne, Ehs]
    clear hk hn
    go_enter Tryd.func9, Tryd.ntmps9
    go_wp2_with fail
    all_goals
      go_ret
      rw [F.out]
      exact ⟨rfl, bel_trans (bel_alloc _ _) (bel_alloc _ _)⟩
  rw [Decidable.not_not] at hs
  by_cases hkl : ¬ (a.keys.length = b.keys.length)
  · have hkx : a.keys ≠ b.keys := fun e => hkl (by rw [e])
    have F : Hid (sameS (d + 1) a b = false) := hidI (by simp [sameS, hkx])
    have Ehk : (a.kind == b.kind) = true := by rw [beq_iff_eq]; exact hk
    have Ehn : (a.n == b.n) = true := by rw [beq_iff_eq]; exact hn
    have Ehs : (ByteArray.mk a.s.toArray == ByteArray.mk b.s.toArray) = true := ba_eq (by simpa using hs)
    have Ehkl : ((a.keys.length : Int) == (b.keys.length : Int)) = false := by rw [beq_eq_false_iff_ne]; omega
    have Nhkl : ((a.keys.length : Int) != (b.keys.length : Int)) = true := by simp only [bne, Ehkl, Bool.not_false]
    clear hkx
    clear hk hn hs
    go_enter Tryd.func9, Tryd.ntmps9
    go_wp2_with fail
    all_goals
      go_ret
      rw [F.out]
      exact ⟨rfl, bel_trans (bel_alloc _ _) (bel_alloc _ _)⟩
  rw [Decidable.not_not] at hkl
  by_cases hll : ¬ (a.l.length = b.l.length)
  · have F : Hid (sameS (d + 1) a b = false) := hidI (by simp [sameS, hll])
    have Ehk : (a.kind == b.kind) = true := by rw [beq_iff_eq]; exact hk
    have Ehn : (a.n == b.n) = true := by rw [beq_iff_eq]; exact hn
    have Ehs : (ByteArray.mk a.s.toArray == ByteArray.mk b.s.toArray) = true := ba_eq (by simpa using hs)
    have Ehkl : ((a.keys.length : Int) == (b.keys.length : Int)) = true := by rw [beq_iff_eq]; omega
    have Ehll : ((a.l.length : Int) == (b.l.length : Int)) = false := by rw [beq_eq_false_iff_ne]; omega
    have Nhll : ((a.l.length : Int) != (b.l.length : Int)) = true := by simp only [bne, Ehll, Bool.not_false]
    clear hk hn hs hkl
    go_enter Tryd.func9, Tryd.ntmps9
    go_wp2_with fail
    all_goals
      go_ret
      rw [F.out]
      exact ⟨rfl, bel_trans (bel_alloc _ _) (bel_alloc _ _)⟩
  rw [Decidable.not_not] at hll
  have FS : Hid (sameS (d + 1) a b = (decide (a.keys = b.keys) && allS (sameS d) a.l b.l)) := hidI (by simp [sameS, hk, hn, hs, hll])
  have HKL := hidI hkl
  have HLL := hidI hll
  rw [← hk, ← hn, ← hs, ← hkl, ← hll] at HB ⊢
  have es : (ByteArray.mk a.s.toArray == ByteArray.mk a.s.toArray) = true := ba_eq rfl
  have I0 : Hid (SameI w ((w.alloc (.cells #[.int .i64 a.kind, .int .i64 a.n, .string ⟨a.s.toArray⟩, .slice a1 a.keys.length c1, .slice a2 a.l.length c2] 25)).alloc (.cells #[.int .i64 a.kind, .int .i64 a.n, .string ⟨a.s.toArray⟩, .slice b1 a.keys.length d1, .slice b2 a.l.length d2] 25)) ok ok' (d + 1) a b a.kind a.n a.s a.keys.length a.l.length a1 a2 b1 b2 c1 c2 d1 d2) :=
    ⟨h2a w _ _, h2b w _ _, HA.out.bel (bel_trans (bel_alloc _ _) (bel_alloc _ _)), HB.out.bel (bel_trans (bel_alloc _ _) (bel_alloc _ _)), bel_trans (bel_alloc _ _) (bel_alloc _ _)⟩
  clear hk hn hs hkl hll
  go_enter Tryd.func9, Tryd.ntmps9
  go_wp2_with fail
  go_loopg [47] a.keys.length (fun gk i wr => ∃ (k : Nat), k ≤ a.keys.length ∧ gk = a.keys.length - k ∧ i = .int .i64 k ∧ (∀ j, j < k → a.keys[j]? = b.keys[j]?) ∧ SameI w wr ok ok' (d + 1) a b a.kind a.n a.s a.keys.length a.l.length a1 a2 b1 b2 c1 c2 d1 d2)
  case atStart => exact ⟨0, Nat.zero_le _, rfl, rfl, fun j hj => absurd hj (by omega), I0.out⟩
  case round =>
    obtain ⟨k, hk, hgk, rfl, hke, hI⟩ := hrel
    have A := hidI (And.intro hke hI)
    obtain ⟨x0, x1, x2, x3, x4, -⟩ := hI.1.c
    obtain ⟨y0, y1, y2, y3, y4, -⟩ := hI.2.1.c
    clear hke
    by_cases hlt : k < a.keys.length
    · have hlt2 : k < b.keys.length := by rw [← HKL.out]; exact hlt
      obtain ⟨g1, o1, rfl, z1, z2, z3⟩ : ∃ g1 o1, a1 = some ⟨g1, o1, none⟩ ∧ a.keys.length ≤ c1 ∧ c1 ≤ maxLen ∧ wr.cell? ⟨g1, o1 + k, none⟩ = some (.string ⟨a.keys[k].toArray⟩) := by
        obtain ⟨ks, ls, e, -, -, -, h4, -⟩ := hI.2.2.1
        simp only [Value.agg.injEq, Array.mk.injEq, List.cons.injEq, and_true] at e
        obtain ⟨-, -, -, rfl, -⟩ := e
        exact strs_at h4 hlt
      obtain ⟨g2, o2, rfl, z4, z5, z6⟩ : ∃ g2 o2, b1 = some ⟨g2, o2, none⟩ ∧ b.keys.length ≤ d1 ∧ d1 ≤ maxLen ∧ wr.cell? ⟨g2, o2 + k, none⟩ = some (.string ⟨b.keys[k].toArray⟩) := by
        obtain ⟨ks, ls, e, -, -, -, h4, -⟩ := hI.2.2.2.1
        simp only [Value.agg.injEq, Array.mk.injEq, List.cons.injEq, and_true] at e
        obtain ⟨-, -, -, rfl, -⟩ := e
        exact strs_at h4 hlt2
      unfold maxLen at z2 z5
      clear hI
      by_cases hq : a.keys[k] = b.keys[k]
      · rw [← hq] at z6
        have q1 : (ByteArray.mk a.keys[k].toArray == ByteArray.mk a.keys[k].toArray) = true := ba_eq rfl
        have HQ := hidI hq
        clear hq
        go_wp2_with fail
        go_quiet (fail)
        go_wp2_with fail
        go_roundg (a.keys.length - (k + 1))
        case measure => omega
        case rel =>
          refine ⟨k + 1, hlt, rfl, by go_num, ?_, A.out.2.drewN _⟩
          intro j hj
          by_cases hjk : j < k
          · exact A.out.1 j hjk
          · have : j = k := by omega
            subst this
            rw [List.getElem?_eq_getElem hlt, List.getElem?_eq_getElem hlt2, HQ.out]
      · have q1 : (ByteArray.mk a.keys[k].toArray == ByteArray.mk b.keys[k].toArray) = false := ba_ne (by simpa using hq)
        have q2 : (a.keys[k] == b.keys[k]) = false := by rw [beq_eq_false_iff_ne]; exact hq
        have HQ := hidI hq
        clear hq
        go_wp2_with fail
        go_quiet (fail)
        go_wp2_with fail
        go_ret
        refine ⟨?_, (A.out.2.drewN _).2.2.2.2⟩
        have hne : a.keys ≠ b.keys := by
          intro e
          apply HQ.out
          have := congrArg (fun l => l[k]?) e
          simp only [List.getElem?_eq_getElem hlt, List.getElem?_eq_getElem hlt2, Option.some.injEq] at this
          exact this
        rw [FS.out]
        simp [hne]
    · have hke : Hid (a.keys = b.keys) := hidI (by
        apply List.ext_getElem?
        intro j
        by_cases hj : j < k
        · exact A.out.1 j hj
        · have h1 : a.keys.length ≤ j := by omega
          rw [List.getElem?_eq_none h1, List.getElem?_eq_none (by rw [← HKL.out]; exact h1)])
      have AI := hidI A.out.2
      clear hI A x0 x1 x2 x3 x4 y0 y1 y2 y3 y4
      obtain ⟨x0, x1, x2, x3, x4, -⟩ := AI.out.1.c
      obtain ⟨y0, y1, y2, y3, y4, -⟩ := AI.out.2.1.c
      go_wp2_with fail
      go_loopg [65] a.l.length (fun gk i wr => ∃ (k : Nat), k ≤ a.l.length ∧ gk = a.l.length - k ∧ i = .int .i64 k ∧ (∀ (j : Nat) (x y : V), j < k → a.l[j]? = some x → b.l[j]? = some y → sameS d x y = true) ∧ SameI w wr ok ok' (d + 1) a b a.kind a.n a.s a.keys.length a.l.length a1 a2 b1 b2 c1 c2 d1 d2)
      case atStart => exact ⟨0, Nat.zero_le _, rfl, rfl, fun j x y hj => absurd hj (by omega), AI.out⟩
      case round =>
        obtain ⟨k', hk', hgk', rfl, hall, hI⟩ := hrel
        have A := hidI (And.intro hall hI)
        clear hall x0 x1 x2 x3 x4 y0 y1 y2 y3 y4
        by_cases hlt' : k' < a.l.length
        · have hltb : k' < b.l.length := by rw [← HLL.out]; exact hlt'
          obtain ⟨g1, o1, rfl, z1, z2, a5, c5, a6, c6, p0, p1, p2, p3, p4, p5⟩ : ∃ g1 o1, a2 = some ⟨g1, o1, none⟩ ∧ a.l.length ≤ c2 ∧ c2 ≤ maxLen ∧ _ := by
            obtain ⟨ks, ls, e, -, -, -, -, h5⟩ := hI.2.2.1
            simp only [Value.agg.injEq, Array.mk.injEq, List.cons.injEq, and_true] at e
            obtain ⟨-, -, -, -, rfl⟩ := e
            exact vals_at h5 hlt'
          obtain ⟨g2, o2, rfl, z4, z5, a5', c5', a6', c6', q0, q1, q2, q3, q4, q5⟩ : ∃ g2 o2, b2 = some ⟨g2, o2, none⟩ ∧ b.l.length ≤ d2 ∧ d2 ≤ maxLen ∧ _ := by
            obtain ⟨ks, ls, e, -, -, -, -, h5⟩ := hI.2.2.2.1
            simp only [Value.agg.injEq, Array.mk.injEq, List.cons.injEq, and_true] at e
            obtain ⟨-, -, -, -, rfl⟩ := e
            exact vals_at h5 hltb
          unfold maxLen at z2 z5
          have x4 := hI.1.c.2.2.2.2.1
          have y4 := hI.2.1.c.2.2.2.2.1
          have CALL : Hid (∀ w', Below wr.heap.size wr w' → Calls Tryd.prog 9 #[.agg #[.int .i64 a.l[k'].kind, .int .i64 a.l[k'].n, .string ⟨a.l[k'].s.toArray⟩, .slice a5 a.l[k'].keys.length c5, .slice a6 a.l[k'].l.length c6], .agg #[.int .i64 b.l[k'].kind, .int .i64 b.l[k'].n, .string ⟨b.l[k'].s.toArray⟩, .slice a5' b.l[k'].keys.length c5', .slice a6' b.l[k'].l.length c6']] w' fun e w3 => e = .returned (.bool (sameS d a.l[k'] b.l[k'])) ∧ Below wr.heap.size wr w3 ∧
              w3.cell? ⟨w.heap.size, 4, none⟩ = some (.slice (some ⟨g1, o1, none⟩) a.l.length c2) ∧ w3.cell? ⟨w.heap.size + 1, 4, none⟩ = some (.slice (some ⟨g2, o2, none⟩) a.l.length d2) ∧
              w3.cell? ⟨g1, o1 + k' * 5, none⟩ = some (.int .i64 a.l[k'].kind) ∧ w3.cell? ⟨g1, o1 + k' * 5 + 1, none⟩ = some (.int .i64 a.l[k'].n) ∧ w3.cell? ⟨g1, o1 + k' * 5 + 2, none⟩ = some (.string ⟨a.l[k'].s.toArray⟩) ∧ w3.cell? ⟨g1, o1 + k' * 5 + 3, none⟩ = some (.slice a5 a.l[k'].keys.length c5) ∧ w3.cell? ⟨g1, o1 + k' * 5 + 4, none⟩ = some (.slice a6 a.l[k'].l.length c6) ∧
              w3.cell? ⟨g2, o2 + k' * 5, none⟩ = some (.int .i64 b.l[k'].kind) ∧ w3.cell? ⟨g2, o2 + k' * 5 + 1, none⟩ = some (.int .i64 b.l[k'].n) ∧ w3.cell? ⟨g2, o2 + k' * 5 + 2, none⟩ = some (.string ⟨b.l[k'].s.toArray⟩) ∧ w3.cell? ⟨g2, o2 + k' * 5 + 3, none⟩ = some (.slice a5' b.l[k'].keys.length c5') ∧ w3.cell? ⟨g2, o2 + k' * 5 + 4, none⟩ = some (.slice a6' b.l[k'].l.length c6')) := by
            intro w' hb'
            refine (IH.out w' ok ok' a.l[k'] b.l[k'] _ _ (p5.bel hb') (q5.bel hb')).mono ?_
            rintro e w3 ⟨rfl, hb3⟩
            have hb4 := bel_trans hb' hb3
            exact ⟨rfl, hb4, cell_bel hb4 x4, cell_bel hb4 y4, cell_bel hb4 p0, cell_bel hb4 p1, cell_bel hb4 p2, cell_bel hb4 p3, cell_bel hb4 p4, cell_bel hb4 q0, cell_bel hb4 q1, cell_bel hb4 q2, cell_bel hb4 q3, cell_bel hb4 q4⟩
          clear hI p5 q5
          go_wp2_with fail
          go_region_held3 (fun w3 => w3.cell? ⟨w.heap.size, 4, none⟩ = some (.slice (some ⟨g1, o1, none⟩) a.l.length c2) ∧ w3.cell? ⟨w.heap.size + 1, 4, none⟩ = some (.slice (some ⟨g2, o2, none⟩) a.l.length d2) ∧
              w3.cell? ⟨g1, o1 + k' * 5, none⟩ = some (.int .i64 a.l[k'].kind) ∧ w3.cell? ⟨g1, o1 + k' * 5 + 1, none⟩ = some (.int .i64 a.l[k'].n) ∧ w3.cell? ⟨g1, o1 + k' * 5 + 2, none⟩ = some (.string ⟨a.l[k'].s.toArray⟩) ∧ w3.cell? ⟨g1, o1 + k' * 5 + 3, none⟩ = some (.slice a5 a.l[k'].keys.length c5) ∧ w3.cell? ⟨g1, o1 + k' * 5 + 4, none⟩ = some (.slice a6 a.l[k'].l.length c6) ∧
              w3.cell? ⟨g2, o2 + k' * 5, none⟩ = some (.int .i64 b.l[k'].kind) ∧ w3.cell? ⟨g2, o2 + k' * 5 + 1, none⟩ = some (.int .i64 b.l[k'].n) ∧ w3.cell? ⟨g2, o2 + k' * 5 + 2, none⟩ = some (.string ⟨b.l[k'].s.toArray⟩) ∧ w3.cell? ⟨g2, o2 + k' * 5 + 3, none⟩ = some (.slice a5' b.l[k'].keys.length c5') ∧ w3.cell? ⟨g2, o2 + k' * 5 + 4, none⟩ = some (.slice a6' b.l[k'].l.length c6')) (go_keep)
            (first | (go_at_call 9; refine (CALL.out _ (by exact ⟨rfl, rfl, rfl, Nat.le_refl _, fun _ _ => rfl⟩)).mono ?_; rintro e w3 ⟨rfl, hb3, s1, s2, s3, s4, s5, s6, s7, s8, s9, s10, s11, s12⟩))
          all_goals
            have A3 := hidI (A.out.2.below hb3)
            clear s1 s2 s3 s4 s5 s6 s7 s8 s9 s10 s11 s12 hb3 p0 p1 p2 p3 p4 q0 q1 q2 q3 q4 x4 y4
            cases hr : sameS d a.l[k'] b.l[k'] with
            | true =>
              have HR := hidI hr
              clear hr
              go_wp2_with fail
              go_roundg (a.l.length - (k' + 1))
              case measure => omega
              case rel =>
                refine ⟨k' + 1, hlt', rfl, by go_num, ?_, A3.out⟩
                intro j x y hj hx hy
                by_cases hjk : j < k'
                · exact A.out.1 j x y hjk hx hy
                · have : j = k' := by omega
                  subst this
                  rw [List.getElem?_eq_getElem hlt'] at hx
                  rw [List.getElem?_eq_getElem hltb] at hy
                  cases hx
                  cases hy
                  exact HR.out
            | false =>
              have HR := hidI hr
              clear hr
              go_wp2_with fail
              go_ret
              refine ⟨?_, A3.out.2.2.2.2⟩
              have hno : allS (sameS d) a.l b.l = false := by
                cases h9 : allS (sameS d) a.l b.l with
                | false => rfl
                | true =>
                  have := (allS_iff _ _).1 h9 k' _ _ (List.getElem?_eq_getElem hlt') (List.getElem?_eq_getElem hltb)
                  rw [HR.out] at this
                  cases this
              rw [FS.out, hno, Bool.and_false]
              rfl
        · have A3 := hidI A.out
          clear hI A
          go_wp2_with fail
          go_ret
          refine ⟨?_, A3.out.2.2.2.2.2⟩
          have hyes : allS (sameS d) a.l b.l = true := (allS_iff _ _).2 fun j x y hx hy => A3.out.1 j x y (by have := (List.getElem?_eq_some_iff.1 hx).1; omega) hx hy
          rw [FS.out, hyes, hke.out]
          simp
theorem rsame_all (d : Nat) : RSameC d := by
  induction d with
  | zero => exact fun _ _ _ _ _ _ _ h => h.elim
  | succ d ih => exact rsame_succ d ih
theorem allS_eq {f : V → V → Bool} : ∀ (l m : List V), l.length = m.length → (∀ x ∈ l, ∀ y, f x y = true ↔ x = y) → (allS f l m = true ↔ l = m)
  | [], [], _, _ => by simp [allS]
  | [], _ :: _, h, _ => by simp at h
  | _ :: _, [], h, _ => by simp at h
  | x :: l, y :: m, h, hf => by
    rw [allS, Bool.and_eq_true, hf x (by simp) y, allS_eq l m (by simpa using h) fun z hz => hf z (by simp [hz]), List.cons.injEq]
theorem sameS_iff (d : Nat) : ∀ (a b : V), Dep d a → (sameS d a b = true ↔ a = b) := by
  induction d with
  | zero => intro a b h; exact h.elim
  | succ d ih =>
    intro a b h
    simp only [sameS, Bool.and_eq_true, decide_eq_true_eq]
    constructor
    · rintro ⟨⟨⟨⟨⟨h1, h2⟩, h3⟩, h4⟩, h5⟩, h6⟩
      have e := (allS_eq a.l b.l h5 fun x hx y => ih x y (h x hx)).1 h6
      rw [← V_eta a, ← V_eta b, h1, h2, h3, h4, e]
    · rintro rfl
      exact ⟨⟨⟨⟨⟨rfl, rfl⟩, rfl⟩, rfl⟩, rfl⟩, (allS_eq a.l a.l rfl fun x hx y => ih x y (h x hx)).2 rfl⟩
theorem vis_deep {w : World} {ok : Nat → Prop} : ∀ (d : Nat) {t : V} {v : Value}, VIs w ok d t v → Dep d t
  | 0, _, _, h => h.elim
  | d + 1, t, v, h => by
    obtain ⟨ks, ls, e, h1, h2, h3, h4, h5⟩ := h
    intro x hx
    obtain ⟨y, hy⟩ := vals_mem h5 hx
    exact vis_deep d hy
open Classical in
theorem rsame_is (w : World) (ok ok' : Nat → Prop) (a b : V) (va vb : Value) (ha : In w ok a va) (hb : In w ok' b vb) :
    Calls Tryd.prog 9 #[va, vb] w fun e w' => e = .returned (.bool (decide (a = b))) ∧ Below w.heap.size w w' := by
  obtain ⟨d, ha⟩ := ha
  obtain ⟨d', hb⟩ := hb
  have h1 := VIs.le (show d ≤ d + d' by omega) ha
  refine (rsame_all (d + d') w _ _ a b va vb h1 (VIs.le (by omega) hb)).mono ?_
  rintro e w' ⟨rfl, hb⟩
  refine ⟨?_, hb⟩
  congr 2
  rw [Bool.eq_iff_iff, sameS_iff _ a b (vis_deep _ h1)]; simp
end Go.Proofs.YtaifciobaapehaaDoor

/- What begins and DoOp of package stairwellref do. -/
set_option linter.unusedSimpArgs false
set_option linter.unusedVariables false
namespace Go.Proofs.YtaifciobaapehaaDoor
open Go.RowKit

/- The boxes of DoOp. -/
def DB (w : World) (t : V) (o : OpT) (a1 a2 a7 a8 : Option Addr) (c1 c2 c7 c8 : Nat) (W : World) : Prop := BoxIs W w.heap.size (.int .i64 t.kind) (.int .i64 t.n) (.string ⟨t.s.toArray⟩) (.slice a1 t.keys.length c1) (.slice a2 t.l.length c2) ∧ OBox W (w.heap.size + 1) (.int .i64 o.kind) (.string ⟨o.path.toArray⟩) (.string ⟨o.frm.toArray⟩) (.int .i64 o.value.kind) (.int .i64 o.value.n) (.string ⟨o.value.s.toArray⟩) (.slice a7 o.value.keys.length c7) (.slice a8 o.value.l.length c8) ∧ BoxIs W (w.heap.size + 2) (.int .i64 0) (.int .i64 0) (.string ⟨#[]⟩) (.slice none 0 0) (.slice none 0 0) ∧ Below w.heap.size w W
theorem DB.bel {w W W' : World} {t : V} {o : OpT} {a1 a2 a7 a8 : Option Addr} {c1 c2 c7 c8 : Nat} (h : DB w t o a1 a2 a7 a8 c1 c2 c7 c8 W) (hb : Below W.heap.size W W') : DB w t o a1 a2 a7 a8 c1 c2 c7 c8 W' := ⟨box_bel hb h.1, h.2.1.bel hb, box_bel hb h.2.2.1, bel_trans h.2.2.2 hb⟩
theorem DB.big {w W : World} {t : V} {o : OpT} {a1 a2 a7 a8 : Option Addr} {c1 c2 c7 c8 : Nat} (h : DB w t o a1 a2 a7 a8 c1 c2 c7 c8 W) : w.heap.size + 2 < W.heap.size := h.2.2.1.lt
theorem dput {w w1 w9 : World} {ok : Nat → Prop} {t z : V} {o : OpT} {a1 a2 a7 a8 b7 b8 : Option Addr} {c1 c2 c7 c8 d7 d8 : Nat} (h : DB w t o a1 a2 a7 a8 c1 c2 c7 c8 w9) (h1 : w.heap.size + 2 < w1.heap.size) (hy : In w9 (okN (fun k => ok k ∧ k < w.heap.size) w1.heap.size) z (.agg #[.int .i64 z.kind, .int .i64 z.n, .string ⟨z.s.toArray⟩, .slice b7 z.keys.length d7, .slice b8 z.l.length d8])) :
    Below w.heap.size w (set5 w9 (w.heap.size + 2) (.int .i64 z.kind) (.int .i64 z.n) (.string ⟨z.s.toArray⟩) (.slice b7 z.keys.length d7) (.slice b8 z.l.length d8)) ∧ In (set5 w9 (w.heap.size + 2) (.int .i64 z.kind) (.int .i64 z.n) (.string ⟨z.s.toArray⟩) (.slice b7 z.keys.length d7) (.slice b8 z.l.length d8)) (okN ok w.heap.size) z (.agg #[.int .i64 z.kind, .int .i64 z.n, .string ⟨z.s.toArray⟩, .slice b7 z.keys.length d7, .slice b8 z.l.length d8]) ∧ BoxIs (set5 w9 (w.heap.size + 2) (.int .i64 z.kind) (.int .i64 z.n) (.string ⟨z.s.toArray⟩) (.slice b7 z.keys.length d7) (.slice b8 z.l.length d8)) (w.heap.size + 2) (.int .i64 z.kind) (.int .i64 z.n) (.string ⟨z.s.toArray⟩) (.slice b7 z.keys.length d7) (.slice b8 z.l.length d8) := by
  have g1 := set5_gb w9 (w.heap.size + 2) (.int .i64 z.kind) (.int .i64 z.n) (.string ⟨z.s.toArray⟩) (.slice b7 z.keys.length d7) (.slice b8 z.l.length d8)
  refine ⟨bel_set5 h.2.2.2 (by omega) _ _ _ _ _, (hy.grown g1 ?_).weak ?_, h.2.2.1.set _ _ _ _ _⟩
  · intro k hk e
    rcases hk with hk | hk
    · have := hk.2; omega
    · omega
  · intro k hk
    rcases hk with hk | hk
    · exact .inl hk.1
    · exact .inr (by omega)
theorem cnt_zero : cnt zeroT ≤ 1000000000000 := by rw [cnt_eq]; simp [zeroT, cnts]
theorem cnt_get : ∀ (ns : List (List UInt8)) (t y : V), getV ns t = some y → cnt y ≤ cnt t
  | [], t, y, h => by simp only [getV, Option.some.injEq] at h; subst h; omega
  | s :: ns, t, y, h => by
    rw [getV] at h
    obtain ⟨z, hz, h⟩ := Option.bind_eq_some_iff.1 h
    have ih := cnt_get ns z y h
    have := cnts_mem (meant_mem hz)
    rw [cnt_eq t]
    omega
theorem cnt_getR (sp : List (List UInt8) × Int) (t : V) : cnt (getR sp t).1 ≤ cnt t + 1 := by
  have hz : cnt zeroT = 1 := by rw [cnt_eq]; rfl
  unfold getR
  split
  · simp only; omega
  · split
    · simp only; omega
    · split
      · rename_i y hy
        have := cnt_get _ _ _ hy
        simp only; omega
      · simp only; omega
open Classical in
set_option maxRecDepth 100000 in
set_option maxHeartbeats 8000000 in
theorem rdo_1 (w : World) (ok : Nat → Prop) (t : V) (o : OpT) (v ov : Value) (h : In w ok t v) (ho : OpIn w ok o ov) (hN : cnt t ≤ 100000000000) (hX : cnt o.value ≤ 100000000000) (hk : o.kind = 1) : Calls Tryd.prog 22 #[v, ov] w fun e w' => ∃ r, e = .returned (.tuple #[r, .int .i64 (oneR t o).2]) ∧ Below w.heap.size w w' ∧ In w' (okN ok w.heap.size) (oneR t o).1 r := by
  have H := hidI h.low
  obtain ⟨-, hp, hf, a7, a8, c7, c8, rfl, hx⟩ := ho
  have HX := hidI hx.low
  have N1 := hidI (show cnt t ≤ 1000000000000 by omega)
  have N2 := hidI (show cnt o.value ≤ 1000000000000 by omega)
  have N3 := hidI (show cnt t ≤ 1000000000000000 by omega)
  have NT := hidI hN
  obtain ⟨a1, a2, c1, c2, rfl⟩ := h.form
  have K0 : Hid (DB w t o a1 a2 a7 a8 c1 c2 c7 c8 (((w.alloc (.cells #[.int .i64 t.kind, .int .i64 t.n, .string ⟨t.s.toArray⟩, .slice a1 t.keys.length c1, .slice a2 t.l.length c2] 25)).alloc (.cells #[.int .i64 o.kind, .string ⟨o.path.toArray⟩, .string ⟨o.frm.toArray⟩, .int .i64 o.value.kind, .int .i64 o.value.n, .string ⟨o.value.s.toArray⟩, .slice a7 o.value.keys.length c7, .slice a8 o.value.l.length c8] 43)).alloc (.cells #[.int .i64 0, .int .i64 0, .string ⟨#[]⟩, .slice none 0 0, .slice none 0 0] 25))) := hidI ⟨h3a w _ _ _, h3b w _ _ _, h3c w _ _ _, bel_trans (bel_trans (bel_alloc _ _) (bel_alloc _ _)) (bel_alloc _ _)⟩
  have hbig : Hid (w.heap.size + 2 < (((w.alloc (.cells #[.int .i64 t.kind, .int .i64 t.n, .string ⟨t.s.toArray⟩, .slice a1 t.keys.length c1, .slice a2 t.l.length c2] 25)).alloc (.cells #[.int .i64 o.kind, .string ⟨o.path.toArray⟩, .string ⟨o.frm.toArray⟩, .int .i64 o.value.kind, .int .i64 o.value.n, .string ⟨o.value.s.toArray⟩, .slice a7 o.value.keys.length c7, .slice a8 o.value.l.length c8] 43)).alloc (.cells #[.int .i64 0, .int .i64 0, .string ⟨#[]⟩, .slice none 0 0, .slice none 0 0] 25)).heap.size) := hidI K0.out.big
  clear h hx hN hX
  obtain ⟨g9, hg9⟩ : ∃ g, layR addedV o.path (splitP o.path) t o.value = g := ⟨_, rfl⟩
  obtain ⟨z, cd⟩ := g9
  have HA : Hid (oneR t o = (z, cd)) := hidI (by rw [← hg9]; simp [oneR, hk])
  have HG := hidI hg9
  have q1 : (o.kind == 1) = true := by simp [hk]
  have q2 : (o.kind == 2) = false := by simp [hk]
  have q3 : (o.kind == 3) = false := by simp [hk]
  have q4 : (o.kind == 4) = false := by simp [hk]
  have q5 : (o.kind == 5) = false := by simp [hk]
  have q6 : (o.kind == 6) = false := by simp [hk]
  have q6n : (o.kind != 6) = true := by simp [hk]
  clear hk hg9
  go_enter Tryd.func22, Tryd.ntmps22
  obtain ⟨t0, t1, t2, t3, t4, -⟩ := K0.out.1.c
  obtain ⟨⟨o0, o1, o2, o3, o4, o5, o6, o7⟩, -⟩ := K0.out.2.1.c
  obtain ⟨x0, x1, x2, x3, x4, y0, y1, y2, y3, y4⟩ := K0.out.2.2.1.c
  go_wp2_with fail
  refine (ralter1_is _ _ t o.value _ _ o.path (by exact H.out.bel K0.out.2.2.2) (by exact HX.out.bel K0.out.2.2.2) hp N1.out N2.out).mono ?_
  rintro e w1 ⟨r9, rfl, hb, hy⟩
  rw [HG.out] at hy ⊢
  simp only at hy ⊢
  obtain ⟨b7, b8, d7, d8, rfl⟩ := hy.form
  have K1 := hidI (K0.out.bel hb)
  have R := hidI (dput K1.out hbig.out hy)
  clear t0 t1 t2 t3 t4 o0 o1 o2 o3 o4 o5 o6 o7 x0 x1 x2 x3 x4 y0 y1 y2 y3 y4
  obtain ⟨t0, t1, t2, t3, t4, -⟩ := K1.out.1.c
  obtain ⟨⟨o0, o1, o2, o3, o4, o5, o6, o7⟩, -⟩ := K1.out.2.1.c
  obtain ⟨x0, x1, x2, x3, x4, y0, y1, y2, y3, y4⟩ := K1.out.2.2.1.c
  clear hb hy
  go_wp2_with fail
  obtain ⟨r1, r2, r3⟩ := R.out
  obtain ⟨z0, z1, z2, z3, z4, -⟩ := r3.c
  refine bodyPost_ret (v := .tuple #[.agg #[.int .i64 z.kind, .int .i64 z.n, .string ⟨z.s.toArray⟩, .slice b7 z.keys.length d7, .slice b8 z.l.length d8], .int .i64 cd]) ?_ rfl ?_
  · simp only [set5] at z0 z1 z2 z3 z4
    simp [results, Tryd.results22, go_sem, z0, z1, z2, z3, z4]
  · exact ⟨_, by rw [HA.out], r1, by rw [HA.out]; exact r2⟩
open Classical in
set_option maxRecDepth 100000 in
set_option maxHeartbeats 8000000 in
theorem rdo_2 (w : World) (ok : Nat → Prop) (t : V) (o : OpT) (v ov : Value) (h : In w ok t v) (ho : OpIn w ok o ov) (hN : cnt t ≤ 100000000000) (hX : cnt o.value ≤ 100000000000) (hk : o.kind = 2) : Calls Tryd.prog 22 #[v, ov] w fun e w' => ∃ r, e = .returned (.tuple #[r, .int .i64 (oneR t o).2]) ∧ Below w.heap.size w w' ∧ In w' (okN ok w.heap.size) (oneR t o).1 r := by
  have H := hidI h.low
  obtain ⟨-, hp, hf, a7, a8, c7, c8, rfl, hx⟩ := ho
  have HX := hidI hx.low
  have N1 := hidI (show cnt t ≤ 1000000000000 by omega)
  have N2 := hidI (show cnt o.value ≤ 1000000000000 by omega)
  have N3 := hidI (show cnt t ≤ 1000000000000000 by omega)
  have NT := hidI hN
  obtain ⟨a1, a2, c1, c2, rfl⟩ := h.form
  have K0 : Hid (DB w t o a1 a2 a7 a8 c1 c2 c7 c8 (((w.alloc (.cells #[.int .i64 t.kind, .int .i64 t.n, .string ⟨t.s.toArray⟩, .slice a1 t.keys.length c1, .slice a2 t.l.length c2] 25)).alloc (.cells #[.int .i64 o.kind, .string ⟨o.path.toArray⟩, .string ⟨o.frm.toArray⟩, .int .i64 o.value.kind, .int .i64 o.value.n, .string ⟨o.value.s.toArray⟩, .slice a7 o.value.keys.length c7, .slice a8 o.value.l.length c8] 43)).alloc (.cells #[.int .i64 0, .int .i64 0, .string ⟨#[]⟩, .slice none 0 0, .slice none 0 0] 25))) := hidI ⟨h3a w _ _ _, h3b w _ _ _, h3c w _ _ _, bel_trans (bel_trans (bel_alloc _ _) (bel_alloc _ _)) (bel_alloc _ _)⟩
  have hbig : Hid (w.heap.size + 2 < (((w.alloc (.cells #[.int .i64 t.kind, .int .i64 t.n, .string ⟨t.s.toArray⟩, .slice a1 t.keys.length c1, .slice a2 t.l.length c2] 25)).alloc (.cells #[.int .i64 o.kind, .string ⟨o.path.toArray⟩, .string ⟨o.frm.toArray⟩, .int .i64 o.value.kind, .int .i64 o.value.n, .string ⟨o.value.s.toArray⟩, .slice a7 o.value.keys.length c7, .slice a8 o.value.l.length c8] 43)).alloc (.cells #[.int .i64 0, .int .i64 0, .string ⟨#[]⟩, .slice none 0 0, .slice none 0 0] 25)).heap.size) := hidI K0.out.big
  clear h hx hN hX
  obtain ⟨g9, hg9⟩ : ∃ g, changeR removedV (splitP o.path) t = g := ⟨_, rfl⟩
  obtain ⟨z, cd⟩ := g9
  have HA : Hid (oneR t o = (z, cd)) := hidI (by rw [← hg9]; simp [oneR, hk])
  have HG := hidI hg9
  have q1 : (o.kind == 1) = false := by simp [hk]
  have q2 : (o.kind == 2) = true := by simp [hk]
  have q3 : (o.kind == 3) = false := by simp [hk]
  have q4 : (o.kind == 4) = false := by simp [hk]
  have q5 : (o.kind == 5) = false := by simp [hk]
  have q6 : (o.kind == 6) = false := by simp [hk]
  have q6n : (o.kind != 6) = true := by simp [hk]
  clear hk hg9
  go_enter Tryd.func22, Tryd.ntmps22
  obtain ⟨t0, t1, t2, t3, t4, -⟩ := K0.out.1.c
  obtain ⟨⟨o0, o1, o2, o3, o4, o5, o6, o7⟩, -⟩ := K0.out.2.1.c
  obtain ⟨x0, x1, x2, x3, x4, y0, y1, y2, y3, y4⟩ := K0.out.2.2.1.c
  go_wp2_with fail
  refine (ralter2_is _ _ t zeroT _ _ o.path (by exact H.out.bel K0.out.2.2.2) (by exact in_zero _ _) hp N1.out cnt_zero).mono ?_
  rintro e w1 ⟨r9, rfl, hb, hy⟩
  rw [HG.out] at hy ⊢
  simp only at hy ⊢
  obtain ⟨b7, b8, d7, d8, rfl⟩ := hy.form
  have K1 := hidI (K0.out.bel hb)
  have R := hidI (dput K1.out hbig.out hy)
  clear t0 t1 t2 t3 t4 o0 o1 o2 o3 o4 o5 o6 o7 x0 x1 x2 x3 x4 y0 y1 y2 y3 y4
  obtain ⟨t0, t1, t2, t3, t4, -⟩ := K1.out.1.c
  obtain ⟨⟨o0, o1, o2, o3, o4, o5, o6, o7⟩, -⟩ := K1.out.2.1.c
  obtain ⟨x0, x1, x2, x3, x4, y0, y1, y2, y3, y4⟩ := K1.out.2.2.1.c
  clear hb hy
  go_wp2_with fail
  obtain ⟨r1, r2, r3⟩ := R.out
  obtain ⟨z0, z1, z2, z3, z4, -⟩ := r3.c
  refine bodyPost_ret (v := .tuple #[.agg #[.int .i64 z.kind, .int .i64 z.n, .string ⟨z.s.toArray⟩, .slice b7 z.keys.length d7, .slice b8 z.l.length d8], .int .i64 cd]) ?_ rfl ?_
  · simp only [set5] at z0 z1 z2 z3 z4
    simp [results, Tryd.results22, go_sem, z0, z1, z2, z3, z4]
  · exact ⟨_, by rw [HA.out], r1, by rw [HA.out]; exact r2⟩
open Classical in
set_option maxRecDepth 100000 in
set_option maxHeartbeats 8000000 in
theorem rdo_3 (w : World) (ok : Nat → Prop) (t : V) (o : OpT) (v ov : Value) (h : In w ok t v) (ho : OpIn w ok o ov) (hN : cnt t ≤ 100000000000) (hX : cnt o.value ≤ 100000000000) (hk : o.kind = 3) : Calls Tryd.prog 22 #[v, ov] w fun e w' => ∃ r, e = .returned (.tuple #[r, .int .i64 (oneR t o).2]) ∧ Below w.heap.size w w' ∧ In w' (okN ok w.heap.size) (oneR t o).1 r := by
  have H := hidI h.low
  obtain ⟨-, hp, hf, a7, a8, c7, c8, rfl, hx⟩ := ho
  have HX := hidI hx.low
  have N1 := hidI (show cnt t ≤ 1000000000000 by omega)
  have N2 := hidI (show cnt o.value ≤ 1000000000000 by omega)
  have N3 := hidI (show cnt t ≤ 1000000000000000 by omega)
  have NT := hidI hN
  obtain ⟨a1, a2, c1, c2, rfl⟩ := h.form
  have K0 : Hid (DB w t o a1 a2 a7 a8 c1 c2 c7 c8 (((w.alloc (.cells #[.int .i64 t.kind, .int .i64 t.n, .string ⟨t.s.toArray⟩, .slice a1 t.keys.length c1, .slice a2 t.l.length c2] 25)).alloc (.cells #[.int .i64 o.kind, .string ⟨o.path.toArray⟩, .string ⟨o.frm.toArray⟩, .int .i64 o.value.kind, .int .i64 o.value.n, .string ⟨o.value.s.toArray⟩, .slice a7 o.value.keys.length c7, .slice a8 o.value.l.length c8] 43)).alloc (.cells #[.int .i64 0, .int .i64 0, .string ⟨#[]⟩, .slice none 0 0, .slice none 0 0] 25))) := hidI ⟨h3a w _ _ _, h3b w _ _ _, h3c w _ _ _, bel_trans (bel_trans (bel_alloc _ _) (bel_alloc _ _)) (bel_alloc _ _)⟩
  have hbig : Hid (w.heap.size + 2 < (((w.alloc (.cells #[.int .i64 t.kind, .int .i64 t.n, .string ⟨t.s.toArray⟩, .slice a1 t.keys.length c1, .slice a2 t.l.length c2] 25)).alloc (.cells #[.int .i64 o.kind, .string ⟨o.path.toArray⟩, .string ⟨o.frm.toArray⟩, .int .i64 o.value.kind, .int .i64 o.value.n, .string ⟨o.value.s.toArray⟩, .slice a7 o.value.keys.length c7, .slice a8 o.value.l.length c8] 43)).alloc (.cells #[.int .i64 0, .int .i64 0, .string ⟨#[]⟩, .slice none 0 0, .slice none 0 0] 25)).heap.size) := hidI K0.out.big
  clear h hx hN hX
  obtain ⟨g9, hg9⟩ : ∃ g, layR replacedV o.path (splitP o.path) t o.value = g := ⟨_, rfl⟩
  obtain ⟨z, cd⟩ := g9
  have HA : Hid (oneR t o = (z, cd)) := hidI (by rw [← hg9]; simp [oneR, hk])
  have HG := hidI hg9
  have q1 : (o.kind == 1) = false := by simp [hk]
  have q2 : (o.kind == 2) = false := by simp [hk]
  have q3 : (o.kind == 3) = true := by simp [hk]
  have q4 : (o.kind == 4) = false := by simp [hk]
  have q5 : (o.kind == 5) = false := by simp [hk]
  have q6 : (o.kind == 6) = false := by simp [hk]
  have q6n : (o.kind != 6) = true := by simp [hk]
  clear hk hg9
  go_enter Tryd.func22, Tryd.ntmps22
  obtain ⟨t0, t1, t2, t3, t4, -⟩ := K0.out.1.c
  obtain ⟨⟨o0, o1, o2, o3, o4, o5, o6, o7⟩, -⟩ := K0.out.2.1.c
  obtain ⟨x0, x1, x2, x3, x4, y0, y1, y2, y3, y4⟩ := K0.out.2.2.1.c
  go_wp2_with fail
  refine (ralter3_is _ _ t o.value _ _ o.path (by exact H.out.bel K0.out.2.2.2) (by exact HX.out.bel K0.out.2.2.2) hp N1.out N2.out).mono ?_
  rintro e w1 ⟨r9, rfl, hb, hy⟩
  rw [HG.out] at hy ⊢
  simp only at hy ⊢
  obtain ⟨b7, b8, d7, d8, rfl⟩ := hy.form
  have K1 := hidI (K0.out.bel hb)
  have R := hidI (dput K1.out hbig.out hy)
  clear t0 t1 t2 t3 t4 o0 o1 o2 o3 o4 o5 o6 o7 x0 x1 x2 x3 x4 y0 y1 y2 y3 y4
  obtain ⟨t0, t1, t2, t3, t4, -⟩ := K1.out.1.c
  obtain ⟨⟨o0, o1, o2, o3, o4, o5, o6, o7⟩, -⟩ := K1.out.2.1.c
  obtain ⟨x0, x1, x2, x3, x4, y0, y1, y2, y3, y4⟩ := K1.out.2.2.1.c
  clear hb hy
  go_wp2_with fail
  obtain ⟨r1, r2, r3⟩ := R.out
  obtain ⟨z0, z1, z2, z3, z4, -⟩ := r3.c
  refine bodyPost_ret (v := .tuple #[.agg #[.int .i64 z.kind, .int .i64 z.n, .string ⟨z.s.toArray⟩, .slice b7 z.keys.length d7, .slice b8 z.l.length d8], .int .i64 cd]) ?_ rfl ?_
  · simp only [set5] at z0 z1 z2 z3 z4
    simp [results, Tryd.results22, go_sem, z0, z1, z2, z3, z4]
  · exact ⟨_, by rw [HA.out], r1, by rw [HA.out]; exact r2⟩
open Classical in
set_option maxRecDepth 100000 in
set_option maxHeartbeats 8000000 in
theorem rdo_other (w : World) (ok : Nat → Prop) (t : V) (o : OpT) (v ov : Value) (h : In w ok t v) (ho : OpIn w ok o ov) (hN : cnt t ≤ 100000000000) (hX : cnt o.value ≤ 100000000000) (h1 : o.kind ≠ 1) (h2 : o.kind ≠ 2) (h3 : o.kind ≠ 3) (h4 : o.kind ≠ 4) (h5 : o.kind ≠ 5) (h6 : o.kind ≠ 6) : Calls Tryd.prog 22 #[v, ov] w fun e w' => ∃ r, e = .returned (.tuple #[r, .int .i64 (oneR t o).2]) ∧ Below w.heap.size w w' ∧ In w' (okN ok w.heap.size) (oneR t o).1 r := by
  have H := hidI h.low
  obtain ⟨-, hp, hf, a7, a8, c7, c8, rfl, hx⟩ := ho
  have HX := hidI hx.low
  have N1 := hidI (show cnt t ≤ 1000000000000 by omega)
  have N2 := hidI (show cnt o.value ≤ 1000000000000 by omega)
  have N3 := hidI (show cnt t ≤ 1000000000000000 by omega)
  have NT := hidI hN
  obtain ⟨a1, a2, c1, c2, rfl⟩ := h.form
  have K0 : Hid (DB w t o a1 a2 a7 a8 c1 c2 c7 c8 (((w.alloc (.cells #[.int .i64 t.kind, .int .i64 t.n, .string ⟨t.s.toArray⟩, .slice a1 t.keys.length c1, .slice a2 t.l.length c2] 25)).alloc (.cells #[.int .i64 o.kind, .string ⟨o.path.toArray⟩, .string ⟨o.frm.toArray⟩, .int .i64 o.value.kind, .int .i64 o.value.n, .string ⟨o.value.s.toArray⟩, .slice a7 o.value.keys.length c7, .slice a8 o.value.l.length c8] 43)).alloc (.cells #[.int .i64 0, .int .i64 0, .string ⟨#[]⟩, .slice none 0 0, .slice none 0 0] 25))) := hidI ⟨h3a w _ _ _, h3b w _ _ _, h3c w _ _ _, bel_trans (bel_trans (bel_alloc _ _) (bel_alloc _ _)) (bel_alloc _ _)⟩
  have hbig : Hid (w.heap.size + 2 < (((w.alloc (.cells #[.int .i64 t.kind, .int .i64 t.n, .string ⟨t.s.toArray⟩, .slice a1 t.keys.length c1, .slice a2 t.l.length c2] 25)).alloc (.cells #[.int .i64 o.kind, .string ⟨o.path.toArray⟩, .string ⟨o.frm.toArray⟩, .int .i64 o.value.kind, .int .i64 o.value.n, .string ⟨o.value.s.toArray⟩, .slice a7 o.value.keys.length c7, .slice a8 o.value.l.length c8] 43)).alloc (.cells #[.int .i64 0, .int .i64 0, .string ⟨#[]⟩, .slice none 0 0, .slice none 0 0] 25)).heap.size) := hidI K0.out.big
  clear h hx hN hX
  have HA : Hid (oneR t o = (t, 9)) := hidI (by simp [oneR, h1, h2, h3, h4, h5, h6])
  have HB : Hid (Below w.heap.size w (((w.alloc (.cells #[.int .i64 t.kind, .int .i64 t.n, .string ⟨t.s.toArray⟩, .slice a1 t.keys.length c1, .slice a2 t.l.length c2] 25)).alloc (.cells #[.int .i64 o.kind, .string ⟨o.path.toArray⟩, .string ⟨o.frm.toArray⟩, .int .i64 o.value.kind, .int .i64 o.value.n, .string ⟨o.value.s.toArray⟩, .slice a7 o.value.keys.length c7, .slice a8 o.value.l.length c8] 43)).alloc (.cells #[.int .i64 t.kind, .int .i64 t.n, .string ⟨t.s.toArray⟩, .slice a1 t.keys.length c1, .slice a2 t.l.length c2] 25))) := hidI (bel_trans (bel_trans (bel_alloc _ _) (bel_alloc _ _)) (bel_alloc _ _))
  have KK := hidI ((H.out.bel HB.out).weak low_out)
  have q1 : (o.kind == 1) = false := by simp [h1]
  have q2 : (o.kind == 2) = false := by simp [h2]
  have q3 : (o.kind == 3) = false := by simp [h3]
  have q4 : (o.kind == 4) = false := by simp [h4]
  have q5 : (o.kind == 5) = false := by simp [h5]
  have q6 : (o.kind == 6) = false := by simp [h6]
  clear h1 h2 h3 h4 h5 h6
  go_enter Tryd.func22, Tryd.ntmps22
  obtain ⟨t0, t1, t2, t3, t4, -⟩ := K0.out.1.c
  obtain ⟨⟨o0, o1, o2, o3, o4, o5, o6, o7⟩, -⟩ := K0.out.2.1.c
  obtain ⟨x0, x1, x2, x3, x4, y0, y1, y2, y3, y4⟩ := K0.out.2.2.1.c
  go_wp2_with fail
  refine bodyPost_ret (v := .tuple #[.agg #[.int .i64 t.kind, .int .i64 t.n, .string ⟨t.s.toArray⟩, .slice a1 t.keys.length c1, .slice a2 t.l.length c2], .int .i64 9]) ?_ rfl ?_
  · simp [results, Tryd.results22, go_sem]
  · exact ⟨_, by rw [HA.out], HB.out, by rw [HA.out]; exact KK.out⟩
end Go.Proofs.YtaifciobaapehaaDoor

/- What begins and DoOp (of the kinds 4, 5 and 6) of package stairwellref do. -/
set_option linter.unusedSimpArgs false
set_option linter.unusedVariables false
namespace Go.Proofs.YtaifciobaapehaaDoor
open Go.RowKit

theorem DB.set {w W : World} {t : V} {o : OpT} {a1 a2 a7 a8 : Option Addr} {c1 c2 c7 c8 : Nat} (h : DB w t o a1 a2 a7 a8 c1 c2 c7 c8 W) {g : Nat} (hg : w.heap.size + 2 < g) (u0 u1 u2 u3 u4 : Value) : DB w t o a1 a2 a7 a8 c1 c2 c7 c8 (set5 W g u0 u1 u2 u3 u4) :=
  ⟨h.1.grown (set5_gb _ _ _ _ _ _ _) (by simp; omega), h.2.1.grown (set5_gb _ _ _ _ _ _ _) (by simp; omega), h.2.2.1.grown (set5_gb _ _ _ _ _ _ _) (by simp; omega), bel_set5 h.2.2.2 (by omega) _ _ _ _ _⟩
theorem take_ba (s : List UInt8) (n : Nat) : (ByteArray.mk s.toArray).extract 0 n = ByteArray.mk (s.take n).toArray := by
  have e : ((ByteArray.mk s.toArray).extract 0 n).data = (s.take n).toArray := by
    rw [ByteArray.data_extract]
    apply Array.toList_inj.1
    simp [List.extract_eq_take_drop]
  cases hx : (ByteArray.mk s.toArray).extract 0 n with
  | mk d => rw [hx] at e; simp only at e; rw [e]
theorem pre_take (s p : List UInt8) (h : p.length ≤ s.length) : Lib.hasPrefix s p = (s.take p.length == p) := by
  unfold Lib.hasPrefix
  by_cases hq : s.take p.length = p
  · rw [hq]
    have : p.isPrefixOf s = true := by rw [List.isPrefixOf_iff_prefix]; exact ⟨s.drop p.length, by rw [← List.take_append_drop p.length s]; simp [hq]⟩
    simp [this]
  · have h1 : (s.take p.length == p) = false := by rw [beq_eq_false_iff_ne]; exact hq
    have h2 : p.isPrefixOf s = false := by
      rw [Bool.eq_false_iff]
      intro h9
      obtain ⟨r, rfl⟩ := List.isPrefixOf_iff_prefix.1 h9
      exact hq (by simp)
    rw [h1, h2]
theorem pre_short (s p : List UInt8) (h : s.length < p.length) : Lib.hasPrefix s p = false := by
  unfold Lib.hasPrefix
  rw [Bool.eq_false_iff]
  intro h9
  obtain ⟨r, rfl⟩ := List.isPrefixOf_iff_prefix.1 h9
  simp at h; omega
theorem al_size (w : World) (o : Obj) : (w.alloc o).heap.size = w.heap.size + 1 := by simp
set_option maxRecDepth 100000 in
set_option maxHeartbeats 4000000 in
theorem begins_is (w : World) (s p : List UInt8) (hs : s.length ≤ 140737488351232) (hp : p.length ≤ 9223372036854775807) :
    Calls Tryd.prog 40 #[str s, str p] w fun e w' => e = .returned (.bool (Lib.hasPrefix s p)) ∧ w' = w := by
  unfold str
  by_cases h : p.length ≤ s.length
  · have HQ := hidI (pre_take s p h)
    have g1 : (p.length : Int) ≤ (s.length : Int) := by omega
    have g0 : (0 : Int) ≤ (p.length : Int) := by omega
    have g2 : (p.length : Int) ≤ ((ByteArray.mk s.toArray).size : Int) := by rw [ba_size]; exact g1
    have g3 := take_ba s p.length
    clear h
    go_enter Tryd.func40, Tryd.ntmps40
    go_wp2_with fail
    go_ret
    rw [HQ.out]
    first | rfl | exact ⟨rfl, rfl⟩ | simp
  · have HQ := hidI (pre_short s p (by omega))
    have g1 : ¬ (p.length : Int) ≤ (s.length : Int) := by omega
    clear h
    go_enter Tryd.func40, Tryd.ntmps40
    go_wp2_with fail
    go_ret
    rw [HQ.out]
    first | rfl | exact ⟨rfl, rfl⟩ | simp
theorem removed_cnt {sp : List (List UInt8) × Int} {t y : V} (h : changeR removedV sp t = (y, 0)) : cnt y ≤ 120 := by
  obtain ⟨-, -, -, -, hg⟩ := change_ok h
  rw [← good_ref] at hg
  simp only [Bool.and_eq_true, decide_eq_true_eq] at hg
  exact hg.1.2
open Classical in
set_option maxRecDepth 100000 in
set_option maxHeartbeats 8000000 in
theorem rdo_6 (w : World) (ok : Nat → Prop) (t : V) (o : OpT) (v ov : Value) (h : In w ok t v) (ho : OpIn w ok o ov) (hN : cnt t ≤ 100000000000) (hX : cnt o.value ≤ 100000000000) (hk : o.kind = 6) : Calls Tryd.prog 22 #[v, ov] w fun e w' => ∃ r, e = .returned (.tuple #[r, .int .i64 (oneR t o).2]) ∧ Below w.heap.size w w' ∧ In w' (okN ok w.heap.size) (oneR t o).1 r := by
  have H := hidI h.low
  obtain ⟨-, hp, hf, a7, a8, c7, c8, rfl, hx⟩ := ho
  have HX := hidI hx.low
  have N1 := hidI (show cnt t ≤ 1000000000000 by omega)
  have N2 := hidI (show cnt o.value ≤ 1000000000000 by omega)
  have N3 := hidI (show cnt t ≤ 1000000000000000 by omega)
  have NT := hidI hN
  obtain ⟨a1, a2, c1, c2, rfl⟩ := h.form
  have K0 : Hid (DB w t o a1 a2 a7 a8 c1 c2 c7 c8 (((w.alloc (.cells #[.int .i64 t.kind, .int .i64 t.n, .string ⟨t.s.toArray⟩, .slice a1 t.keys.length c1, .slice a2 t.l.length c2] 25)).alloc (.cells #[.int .i64 o.kind, .string ⟨o.path.toArray⟩, .string ⟨o.frm.toArray⟩, .int .i64 o.value.kind, .int .i64 o.value.n, .string ⟨o.value.s.toArray⟩, .slice a7 o.value.keys.length c7, .slice a8 o.value.l.length c8] 43)).alloc (.cells #[.int .i64 0, .int .i64 0, .string ⟨#[]⟩, .slice none 0 0, .slice none 0 0] 25))) := hidI ⟨h3a w _ _ _, h3b w _ _ _, h3c w _ _ _, bel_trans (bel_trans (bel_alloc _ _) (bel_alloc _ _)) (bel_alloc _ _)⟩
  have hbig : Hid (w.heap.size + 2 < (((w.alloc (.cells #[.int .i64 t.kind, .int .i64 t.n, .string ⟨t.s.toArray⟩, .slice a1 t.keys.length c1, .slice a2 t.l.length c2] 25)).alloc (.cells #[.int .i64 o.kind, .string ⟨o.path.toArray⟩, .string ⟨o.frm.toArray⟩, .int .i64 o.value.kind, .int .i64 o.value.n, .string ⟨o.value.s.toArray⟩, .slice a7 o.value.keys.length c7, .slice a8 o.value.l.length c8] 43)).alloc (.cells #[.int .i64 0, .int .i64 0, .string ⟨#[]⟩, .slice none 0 0, .slice none 0 0] 25)).heap.size) := hidI K0.out.big
  clear h hx hN hX
  obtain ⟨g9, hg9⟩ : ∃ g, getR (splitP o.path) t = g := ⟨_, rfl⟩
  obtain ⟨x, xe⟩ := g9
  have HG := hidI hg9
  have NX : Hid (cnt x ≤ 1000000000000) := hidI (by have h9 := cnt_getR (splitP o.path) t; rw [hg9] at h9; simp only at h9; have := NT.out; omega)
  have HK := hidI hk
  have q1 : (o.kind == 1) = false := by simp [hk]
  have q2 : (o.kind == 2) = false := by simp [hk]
  have q3 : (o.kind == 3) = false := by simp [hk]
  have q4 : (o.kind == 4) = false := by simp [hk]
  have q5 : (o.kind == 5) = false := by simp [hk]
  have q6 : (o.kind == 6) = true := by simp [hk]
  have q6n : (o.kind != 6) = false := by simp [hk]
  clear hk hg9
  go_enter Tryd.func22, Tryd.ntmps22
  obtain ⟨t0, t1, t2, t3, t4, -⟩ := K0.out.1.c
  obtain ⟨⟨o0, o1, o2, o3, o4, o5, o6, o7⟩, -⟩ := K0.out.2.1.c
  obtain ⟨x0, x1, x2, x3, x4, y0, y1, y2, y3, y4⟩ := K0.out.2.2.1.c
  go_wp2_with fail
  refine (rget_is _ (fun k => ok k ∧ k < w.heap.size) t _ o.path (by exact H.out.bel K0.out.2.2.2) hp N3.out).mono ?_
  rintro e w1 ⟨r9, rfl, hb, hy⟩
  rw [HG.out] at hy ⊢
  simp only at hy ⊢
  obtain ⟨a5, a6, c5, c6, rfl⟩ := hy.form
  have K1 : Hid (DB w t o a1 a2 a7 a8 c1 c2 c7 c8 (w1.alloc (.cells #[.int .i64 x.kind, .int .i64 x.n, .string ⟨x.s.toArray⟩, .slice a5 x.keys.length c5, .slice a6 x.l.length c6] 25)) ∧ BoxIs (w1.alloc (.cells #[.int .i64 x.kind, .int .i64 x.n, .string ⟨x.s.toArray⟩, .slice a5 x.keys.length c5, .slice a6 x.l.length c6] 25)) w1.heap.size (.int .i64 x.kind) (.int .i64 x.n) (.string ⟨x.s.toArray⟩) (.slice a5 x.keys.length c5) (.slice a6 x.l.length c6) ∧ In (w1.alloc (.cells #[.int .i64 x.kind, .int .i64 x.n, .string ⟨x.s.toArray⟩, .slice a5 x.keys.length c5, .slice a6 x.l.length c6] 25)) (fun k => ok k ∧ k < w.heap.size) x (.agg #[.int .i64 x.kind, .int .i64 x.n, .string ⟨x.s.toArray⟩, .slice a5 x.keys.length c5, .slice a6 x.l.length c6])) := hidI ⟨K0.out.bel (bel_trans hb (bel_alloc _ _)), heap_alloc_new w1 _, hy.bel (bel_alloc _ _)⟩
  have hbig1 : Hid (w.heap.size + 2 < (w1.alloc (.cells #[.int .i64 x.kind, .int .i64 x.n, .string ⟨x.s.toArray⟩, .slice a5 x.keys.length c5, .slice a6 x.l.length c6] 25)).heap.size) := hidI K1.out.1.big
  have hw1 : Hid (w.heap.size + 2 < w1.heap.size) := hidI (by have := hb.size; have := hbig.out; omega)
  clear t0 t1 t2 t3 t4 o0 o1 o2 o3 o4 o5 o6 o7 x0 x1 x2 x3 x4 y0 y1 y2 y3 y4
  clear hb hy
  by_cases hxe : xe = 0
  · subst hxe
    obtain ⟨t0, t1, t2, t3, t4, -⟩ := K1.out.1.1.c
    obtain ⟨⟨o0, o1, o2, o3, o4, o5, o6, o7⟩, -⟩ := K1.out.1.2.1.c
    obtain ⟨x0, x1, x2, x3, x4, y0, y1, y2, y3, y4⟩ := K1.out.1.2.2.1.c
    obtain ⟨f0, f1, f2, f3, f4, -⟩ := K1.out.2.1.c
    go_wp2_with fail
    refine (rsame_is (w1.alloc (.cells #[.int .i64 x.kind, .int .i64 x.n, .string ⟨x.s.toArray⟩, .slice a5 x.keys.length c5, .slice a6 x.l.length c6] 25)) (fun k => ok k ∧ k < w.heap.size) (fun k => ok k ∧ k < w.heap.size) x o.value _ _ K1.out.2.2 (HX.out.bel K1.out.1.2.2.2)).mono ?_
    rintro e w2 ⟨rfl, hb2⟩
    have K2 := hidI (K1.out.1.bel hb2)
    have hbig2 : Hid (w.heap.size + 2 < w2.heap.size) := hidI K2.out.big
    clear t0 t1 t2 t3 t4 o0 o1 o2 o3 o4 o5 o6 o7 x0 x1 x2 x3 x4 y0 y1 y2 y3 y4
    clear f0 f1 f2 f3 f4
    clear hb2
    by_cases hxv : x = o.value
    · have hd : decide (x = o.value) = true := decide_eq_true hxv
      rw [hd]
      have HV := hidI hxv
      clear hd hxv
      obtain ⟨t0, t1, t2, t3, t4, -⟩ := K2.out.1.c
      obtain ⟨⟨o0, o1, o2, o3, o4, o5, o6, o7⟩, -⟩ := K2.out.2.1.c
      obtain ⟨x0, x1, x2, x3, x4, y0, y1, y2, y3, y4⟩ := K2.out.2.2.1.c
      have HA : Hid (oneR t o = (t, 0)) := hidI (by simp [oneR, HK.out, testR, HG.out, HV.out])
      have R : Hid (_ ∧ _ ∧ _) := hidI (dput K2.out hbig2.out ((H.out.bel K2.out.2.2.2).weak (fun k hk => .inl hk)))
      go_wp2_with fail
      obtain ⟨r1, r2, r3⟩ := R.out
      obtain ⟨z0, z1, z2, z3, z4, -⟩ := r3.c
      refine bodyPost_ret (v := .tuple #[.agg #[.int .i64 t.kind, .int .i64 t.n, .string ⟨t.s.toArray⟩, .slice a1 t.keys.length c1, .slice a2 t.l.length c2], .int .i64 0]) ?_ rfl ?_
      · simp only [set5] at z0 z1 z2 z3 z4
        simp [results, Tryd.results22, go_sem, z0, z1, z2, z3, z4]
      · exact ⟨_, by rw [HA.out], r1, by rw [HA.out]; exact r2⟩
    · have hd : decide (x = o.value) = false := decide_eq_false hxv
      rw [hd]
      have HV := hidI hxv
      clear hd hxv
      obtain ⟨t0, t1, t2, t3, t4, -⟩ := K2.out.1.c
      obtain ⟨⟨o0, o1, o2, o3, o4, o5, o6, o7⟩, -⟩ := K2.out.2.1.c
      obtain ⟨x0, x1, x2, x3, x4, y0, y1, y2, y3, y4⟩ := K2.out.2.2.1.c
      have HA : Hid (oneR t o = (t, 4)) := hidI (by simp [oneR, HK.out, testR, HG.out, HV.out])
      have R : Hid (_ ∧ _ ∧ _) := hidI (dput K2.out hbig2.out ((H.out.bel K2.out.2.2.2).weak (fun k hk => .inl hk)))
      go_wp2_with fail
      obtain ⟨r1, r2, r3⟩ := R.out
      obtain ⟨z0, z1, z2, z3, z4, -⟩ := r3.c
      refine bodyPost_ret (v := .tuple #[.agg #[.int .i64 t.kind, .int .i64 t.n, .string ⟨t.s.toArray⟩, .slice a1 t.keys.length c1, .slice a2 t.l.length c2], .int .i64 4]) ?_ rfl ?_
      · simp only [set5] at z0 z1 z2 z3 z4
        simp [results, Tryd.results22, go_sem, z0, z1, z2, z3, z4]
      · exact ⟨_, by rw [HA.out], r1, by rw [HA.out]; exact r2⟩
  · have e1 : (xe != 0) = true := by rw [bne_iff_ne]; exact hxe
    have e2 : (xe == 0) = false := by rw [beq_eq_false_iff_ne]; exact hxe
    have eH := hidI hxe
    clear hxe
    obtain ⟨t0, t1, t2, t3, t4, -⟩ := K1.out.1.1.c
    obtain ⟨⟨o0, o1, o2, o3, o4, o5, o6, o7⟩, -⟩ := K1.out.1.2.1.c
    obtain ⟨x0, x1, x2, x3, x4, y0, y1, y2, y3, y4⟩ := K1.out.1.2.2.1.c
    have HA : Hid (oneR t o = (t, xe)) := hidI (by simp [oneR, HK.out, testR, HG.out, eH.out])
    have R : Hid (_ ∧ _ ∧ _) := hidI (dput K1.out.1 hbig1.out ((H.out.bel K1.out.1.2.2.2).weak (fun k hk => .inl hk)))
    go_wp2_with fail
    obtain ⟨r1, r2, r3⟩ := R.out
    obtain ⟨z0, z1, z2, z3, z4, -⟩ := r3.c
    refine bodyPost_ret (v := .tuple #[.agg #[.int .i64 t.kind, .int .i64 t.n, .string ⟨t.s.toArray⟩, .slice a1 t.keys.length c1, .slice a2 t.l.length c2], .int .i64 xe]) ?_ rfl ?_
    · simp only [set5] at z0 z1 z2 z3 z4
      simp [results, Tryd.results22, go_sem, z0, z1, z2, z3, z4]
    · exact ⟨_, by rw [HA.out], r1, by rw [HA.out]; exact r2⟩
open Classical in
set_option maxRecDepth 100000 in
set_option maxHeartbeats 8000000 in
theorem rdo_5 (w : World) (ok : Nat → Prop) (t : V) (o : OpT) (v ov : Value) (h : In w ok t v) (ho : OpIn w ok o ov) (hN : cnt t ≤ 100000000000) (hX : cnt o.value ≤ 100000000000) (hk : o.kind = 5) : Calls Tryd.prog 22 #[v, ov] w fun e w' => ∃ r, e = .returned (.tuple #[r, .int .i64 (oneR t o).2]) ∧ Below w.heap.size w w' ∧ In w' (okN ok w.heap.size) (oneR t o).1 r := by
  have H := hidI h.low
  obtain ⟨-, hp, hf, a7, a8, c7, c8, rfl, hx⟩ := ho
  have HX := hidI hx.low
  have N1 := hidI (show cnt t ≤ 1000000000000 by omega)
  have N2 := hidI (show cnt o.value ≤ 1000000000000 by omega)
  have N3 := hidI (show cnt t ≤ 1000000000000000 by omega)
  have NT := hidI hN
  obtain ⟨a1, a2, c1, c2, rfl⟩ := h.form
  have K0 : Hid (DB w t o a1 a2 a7 a8 c1 c2 c7 c8 (((w.alloc (.cells #[.int .i64 t.kind, .int .i64 t.n, .string ⟨t.s.toArray⟩, .slice a1 t.keys.length c1, .slice a2 t.l.length c2] 25)).alloc (.cells #[.int .i64 o.kind, .string ⟨o.path.toArray⟩, .string ⟨o.frm.toArray⟩, .int .i64 o.value.kind, .int .i64 o.value.n, .string ⟨o.value.s.toArray⟩, .slice a7 o.value.keys.length c7, .slice a8 o.value.l.length c8] 43)).alloc (.cells #[.int .i64 0, .int .i64 0, .string ⟨#[]⟩, .slice none 0 0, .slice none 0 0] 25))) := hidI ⟨h3a w _ _ _, h3b w _ _ _, h3c w _ _ _, bel_trans (bel_trans (bel_alloc _ _) (bel_alloc _ _)) (bel_alloc _ _)⟩
  have hbig : Hid (w.heap.size + 2 < (((w.alloc (.cells #[.int .i64 t.kind, .int .i64 t.n, .string ⟨t.s.toArray⟩, .slice a1 t.keys.length c1, .slice a2 t.l.length c2] 25)).alloc (.cells #[.int .i64 o.kind, .string ⟨o.path.toArray⟩, .string ⟨o.frm.toArray⟩, .int .i64 o.value.kind, .int .i64 o.value.n, .string ⟨o.value.s.toArray⟩, .slice a7 o.value.keys.length c7, .slice a8 o.value.l.length c8] 43)).alloc (.cells #[.int .i64 0, .int .i64 0, .string ⟨#[]⟩, .slice none 0 0, .slice none 0 0] 25)).heap.size) := hidI K0.out.big
  clear h hx hN hX
  obtain ⟨g9, hg9⟩ : ∃ g, getR (splitP o.frm) t = g := ⟨_, rfl⟩
  obtain ⟨x, xe⟩ := g9
  have HG := hidI hg9
  have NX : Hid (cnt x ≤ 1000000000000) := hidI (by have h9 := cnt_getR (splitP o.frm) t; rw [hg9] at h9; simp only at h9; have := NT.out; omega)
  have HK := hidI hk
  have q1 : (o.kind == 1) = false := by simp [hk]
  have q2 : (o.kind == 2) = false := by simp [hk]
  have q3 : (o.kind == 3) = false := by simp [hk]
  have q4 : (o.kind == 4) = false := by simp [hk]
  have q5 : (o.kind == 5) = true := by simp [hk]
  have q6 : (o.kind == 6) = false := by simp [hk]
  have q6n : (o.kind != 6) = true := by simp [hk]
  clear hk hg9
  go_enter Tryd.func22, Tryd.ntmps22
  obtain ⟨t0, t1, t2, t3, t4, -⟩ := K0.out.1.c
  obtain ⟨⟨o0, o1, o2, o3, o4, o5, o6, o7⟩, -⟩ := K0.out.2.1.c
  obtain ⟨x0, x1, x2, x3, x4, y0, y1, y2, y3, y4⟩ := K0.out.2.2.1.c
  go_wp2_with fail
  refine (rget_is _ (fun k => ok k ∧ k < w.heap.size) t _ o.frm (by exact H.out.bel K0.out.2.2.2) hf N3.out).mono ?_
  rintro e w1 ⟨r9, rfl, hb, hy⟩
  rw [HG.out] at hy ⊢
  simp only at hy ⊢
  obtain ⟨a5, a6, c5, c6, rfl⟩ := hy.form
  have K1 : Hid (DB w t o a1 a2 a7 a8 c1 c2 c7 c8 (w1.alloc (.cells #[.int .i64 x.kind, .int .i64 x.n, .string ⟨x.s.toArray⟩, .slice a5 x.keys.length c5, .slice a6 x.l.length c6] 25)) ∧ BoxIs (w1.alloc (.cells #[.int .i64 x.kind, .int .i64 x.n, .string ⟨x.s.toArray⟩, .slice a5 x.keys.length c5, .slice a6 x.l.length c6] 25)) w1.heap.size (.int .i64 x.kind) (.int .i64 x.n) (.string ⟨x.s.toArray⟩) (.slice a5 x.keys.length c5) (.slice a6 x.l.length c6) ∧ In (w1.alloc (.cells #[.int .i64 x.kind, .int .i64 x.n, .string ⟨x.s.toArray⟩, .slice a5 x.keys.length c5, .slice a6 x.l.length c6] 25)) (fun k => ok k ∧ k < w.heap.size) x (.agg #[.int .i64 x.kind, .int .i64 x.n, .string ⟨x.s.toArray⟩, .slice a5 x.keys.length c5, .slice a6 x.l.length c6])) := hidI ⟨K0.out.bel (bel_trans hb (bel_alloc _ _)), heap_alloc_new w1 _, hy.bel (bel_alloc _ _)⟩
  have hbig1 : Hid (w.heap.size + 2 < (w1.alloc (.cells #[.int .i64 x.kind, .int .i64 x.n, .string ⟨x.s.toArray⟩, .slice a5 x.keys.length c5, .slice a6 x.l.length c6] 25)).heap.size) := hidI K1.out.1.big
  have hw1 : Hid (w.heap.size + 2 < w1.heap.size) := hidI (by have := hb.size; have := hbig.out; omega)
  clear t0 t1 t2 t3 t4 o0 o1 o2 o3 o4 o5 o6 o7 x0 x1 x2 x3 x4 y0 y1 y2 y3 y4
  clear hb hy
  by_cases hxe : xe = 0
  · subst hxe
    obtain ⟨g8, hg8⟩ : ∃ g, layR addedV o.path (splitP o.path) t x = g := ⟨_, rfl⟩
    obtain ⟨z, cd⟩ := g8
    have HA : Hid (oneR t o = (z, cd)) := hidI (by simp [oneR, HK.out, copiedR, HG.out, hg8])
    have HL := hidI hg8
    clear hg8
    obtain ⟨t0, t1, t2, t3, t4, -⟩ := K1.out.1.1.c
    obtain ⟨⟨o0, o1, o2, o3, o4, o5, o6, o7⟩, -⟩ := K1.out.1.2.1.c
    obtain ⟨x0, x1, x2, x3, x4, y0, y1, y2, y3, y4⟩ := K1.out.1.2.2.1.c
    obtain ⟨f0, f1, f2, f3, f4, -⟩ := K1.out.2.1.c
    go_wp2_with fail
    refine (ralter1_is (w1.alloc (.cells #[.int .i64 x.kind, .int .i64 x.n, .string ⟨x.s.toArray⟩, .slice a5 x.keys.length c5, .slice a6 x.l.length c6] 25)) (fun k => ok k ∧ k < w.heap.size) t x _ _ o.path (by exact H.out.bel K1.out.1.2.2.2) (by exact K1.out.2.2) hp N1.out NX.out).mono ?_
    rintro e w2 ⟨r9, rfl, hb, hy⟩
    rw [HL.out] at hy ⊢
    simp only at hy ⊢
    obtain ⟨b7, b8, d7, d8, rfl⟩ := hy.form
    have K2 := hidI (K1.out.1.bel hb)
    have R := hidI (dput K2.out hbig1.out hy)
    clear t0 t1 t2 t3 t4 o0 o1 o2 o3 o4 o5 o6 o7 x0 x1 x2 x3 x4 y0 y1 y2 y3 y4
    clear f0 f1 f2 f3 f4
    obtain ⟨t0, t1, t2, t3, t4, -⟩ := K2.out.1.c
    obtain ⟨⟨o0, o1, o2, o3, o4, o5, o6, o7⟩, -⟩ := K2.out.2.1.c
    obtain ⟨x0, x1, x2, x3, x4, y0, y1, y2, y3, y4⟩ := K2.out.2.2.1.c
    clear hb hy
    go_wp2_with fail
    obtain ⟨r1, r2, r3⟩ := R.out
    obtain ⟨z0, z1, z2, z3, z4, -⟩ := r3.c
    refine bodyPost_ret (v := .tuple #[.agg #[.int .i64 z.kind, .int .i64 z.n, .string ⟨z.s.toArray⟩, .slice b7 z.keys.length d7, .slice b8 z.l.length d8], .int .i64 cd]) ?_ rfl ?_
    · simp only [set5] at z0 z1 z2 z3 z4
      simp [results, Tryd.results22, go_sem, z0, z1, z2, z3, z4]
    · exact ⟨_, by rw [HA.out], r1, by rw [HA.out]; exact r2⟩
  · have e1 : (xe != 0) = true := by rw [bne_iff_ne]; exact hxe
    have e2 : (xe == 0) = false := by rw [beq_eq_false_iff_ne]; exact hxe
    have eH := hidI hxe
    clear hxe
    obtain ⟨t0, t1, t2, t3, t4, -⟩ := K1.out.1.1.c
    obtain ⟨⟨o0, o1, o2, o3, o4, o5, o6, o7⟩, -⟩ := K1.out.1.2.1.c
    obtain ⟨x0, x1, x2, x3, x4, y0, y1, y2, y3, y4⟩ := K1.out.1.2.2.1.c
    have HA : Hid (oneR t o = (t, xe)) := hidI (by simp [oneR, HK.out, copiedR, HG.out, eH.out])
    have R : Hid (_ ∧ _ ∧ _) := hidI (dput K1.out.1 hbig1.out ((H.out.bel K1.out.1.2.2.2).weak (fun k hk => .inl hk)))
    go_wp2_with fail
    obtain ⟨r1, r2, r3⟩ := R.out
    obtain ⟨z0, z1, z2, z3, z4, -⟩ := r3.c
    refine bodyPost_ret (v := .tuple #[.agg #[.int .i64 t.kind, .int .i64 t.n, .string ⟨t.s.toArray⟩, .slice a1 t.keys.length c1, .slice a2 t.l.length c2], .int .i64 xe]) ?_ rfl ?_
    · simp only [set5] at z0 z1 z2 z3 z4
      simp [results, Tryd.results22, go_sem, z0, z1, z2, z3, z4]
    · exact ⟨_, by rw [HA.out], r1, by rw [HA.out]; exact r2⟩
open Classical in
set_option maxRecDepth 100000 in
set_option maxHeartbeats 8000000 in
theorem rdo_4 (w : World) (ok : Nat → Prop) (t : V) (o : OpT) (v ov : Value) (h : In w ok t v) (ho : OpIn w ok o ov) (hN : cnt t ≤ 100000000000) (hX : cnt o.value ≤ 100000000000) (hk : o.kind = 4) : Calls Tryd.prog 22 #[v, ov] w fun e w' => ∃ r, e = .returned (.tuple #[r, .int .i64 (oneR t o).2]) ∧ Below w.heap.size w w' ∧ In w' (okN ok w.heap.size) (oneR t o).1 r := by
  have H := hidI h.low
  obtain ⟨-, hp, hf, a7, a8, c7, c8, rfl, hx⟩ := ho
  have HX := hidI hx.low
  have N1 := hidI (show cnt t ≤ 1000000000000 by omega)
  have N2 := hidI (show cnt o.value ≤ 1000000000000 by omega)
  have N3 := hidI (show cnt t ≤ 1000000000000000 by omega)
  have NT := hidI hN
  obtain ⟨a1, a2, c1, c2, rfl⟩ := h.form
  have K0 : Hid (DB w t o a1 a2 a7 a8 c1 c2 c7 c8 (((w.alloc (.cells #[.int .i64 t.kind, .int .i64 t.n, .string ⟨t.s.toArray⟩, .slice a1 t.keys.length c1, .slice a2 t.l.length c2] 25)).alloc (.cells #[.int .i64 o.kind, .string ⟨o.path.toArray⟩, .string ⟨o.frm.toArray⟩, .int .i64 o.value.kind, .int .i64 o.value.n, .string ⟨o.value.s.toArray⟩, .slice a7 o.value.keys.length c7, .slice a8 o.value.l.length c8] 43)).alloc (.cells #[.int .i64 0, .int .i64 0, .string ⟨#[]⟩, .slice none 0 0, .slice none 0 0] 25))) := hidI ⟨h3a w _ _ _, h3b w _ _ _, h3c w _ _ _, bel_trans (bel_trans (bel_alloc _ _) (bel_alloc _ _)) (bel_alloc _ _)⟩
  have hbig : Hid (w.heap.size + 2 < (((w.alloc (.cells #[.int .i64 t.kind, .int .i64 t.n, .string ⟨t.s.toArray⟩, .slice a1 t.keys.length c1, .slice a2 t.l.length c2] 25)).alloc (.cells #[.int .i64 o.kind, .string ⟨o.path.toArray⟩, .string ⟨o.frm.toArray⟩, .int .i64 o.value.kind, .int .i64 o.value.n, .string ⟨o.value.s.toArray⟩, .slice a7 o.value.keys.length c7, .slice a8 o.value.l.length c8] 43)).alloc (.cells #[.int .i64 0, .int .i64 0, .string ⟨#[]⟩, .slice none 0 0, .slice none 0 0] 25)).heap.size) := hidI K0.out.big
  clear h hx hN hX
  obtain ⟨g9, hg9⟩ : ∃ g, getR (splitP o.frm) t = g := ⟨_, rfl⟩
  obtain ⟨x, xe⟩ := g9
  have HG := hidI hg9
  have NX : Hid (cnt x ≤ 1000000000000) := hidI (by have h9 := cnt_getR (splitP o.frm) t; rw [hg9] at h9; simp only at h9; have := NT.out; omega)
  have HK := hidI hk
  have q1 : (o.kind == 1) = false := by simp [hk]
  have q2 : (o.kind == 2) = false := by simp [hk]
  have q3 : (o.kind == 3) = false := by simp [hk]
  have q4 : (o.kind == 4) = true := by simp [hk]
  have q5 : (o.kind == 5) = false := by simp [hk]
  have q6 : (o.kind == 6) = false := by simp [hk]
  have q6n : (o.kind != 6) = true := by simp [hk]
  clear hk hg9
  go_enter Tryd.func22, Tryd.ntmps22
  obtain ⟨t0, t1, t2, t3, t4, -⟩ := K0.out.1.c
  obtain ⟨⟨o0, o1, o2, o3, o4, o5, o6, o7⟩, -⟩ := K0.out.2.1.c
  obtain ⟨x0, x1, x2, x3, x4, y0, y1, y2, y3, y4⟩ := K0.out.2.2.1.c
  go_wp2_with fail
  refine (rget_is _ (fun k => ok k ∧ k < w.heap.size) t _ o.frm (by exact H.out.bel K0.out.2.2.2) hf N3.out).mono ?_
  rintro e w1 ⟨r9, rfl, hb, hy⟩
  rw [HG.out] at hy ⊢
  simp only at hy ⊢
  obtain ⟨a5, a6, c5, c6, rfl⟩ := hy.form
  have K1 : Hid (DB w t o a1 a2 a7 a8 c1 c2 c7 c8 (w1.alloc (.cells #[.int .i64 x.kind, .int .i64 x.n, .string ⟨x.s.toArray⟩, .slice a5 x.keys.length c5, .slice a6 x.l.length c6] 25)) ∧ BoxIs (w1.alloc (.cells #[.int .i64 x.kind, .int .i64 x.n, .string ⟨x.s.toArray⟩, .slice a5 x.keys.length c5, .slice a6 x.l.length c6] 25)) w1.heap.size (.int .i64 x.kind) (.int .i64 x.n) (.string ⟨x.s.toArray⟩) (.slice a5 x.keys.length c5) (.slice a6 x.l.length c6) ∧ In (w1.alloc (.cells #[.int .i64 x.kind, .int .i64 x.n, .string ⟨x.s.toArray⟩, .slice a5 x.keys.length c5, .slice a6 x.l.length c6] 25)) (fun k => ok k ∧ k < w.heap.size) x (.agg #[.int .i64 x.kind, .int .i64 x.n, .string ⟨x.s.toArray⟩, .slice a5 x.keys.length c5, .slice a6 x.l.length c6])) := hidI ⟨K0.out.bel (bel_trans hb (bel_alloc _ _)), heap_alloc_new w1 _, hy.bel (bel_alloc _ _)⟩
  have hbig1 : Hid (w.heap.size + 2 < (w1.alloc (.cells #[.int .i64 x.kind, .int .i64 x.n, .string ⟨x.s.toArray⟩, .slice a5 x.keys.length c5, .slice a6 x.l.length c6] 25)).heap.size) := hidI K1.out.1.big
  have hw1 : Hid (w.heap.size + 2 < w1.heap.size) := hidI (by have := hb.size; have := hbig.out; omega)
  clear t0 t1 t2 t3 t4 o0 o1 o2 o3 o4 o5 o6 o7 x0 x1 x2 x3 x4 y0 y1 y2 y3 y4
  clear hb hy
  by_cases hxe : xe = 0
  · subst hxe
    obtain ⟨t0, t1, t2, t3, t4, -⟩ := K1.out.1.1.c
    obtain ⟨⟨o0, o1, o2, o3, o4, o5, o6, o7⟩, -⟩ := K1.out.1.2.1.c
    obtain ⟨x0, x1, x2, x3, x4, y0, y1, y2, y3, y4⟩ := K1.out.1.2.2.1.c
    go_wp2_with fail
    try rw [show ByteArray.mk o.frm.toArray ++ ByteArray.mk #[47] = ByteArray.mk (o.frm ++ [47]).toArray from ba_app o.frm [47]]
    refine (begins_is (w1.alloc (.cells #[.int .i64 x.kind, .int .i64 x.n, .string ⟨x.s.toArray⟩, .slice a5 x.keys.length c5, .slice a6 x.l.length c6] 25)) o.path (o.frm ++ [47]) hp (by simp; omega)).mono ?_
    rintro e w2 ⟨rfl, rfl⟩
    cases hpre : Lib.hasPrefix o.path (o.frm ++ [47]) with
    | true =>
      have HPRE := hidI hpre
      clear hpre
      have HA : Hid (oneR t o = (t, 1)) := hidI (by simp [oneR, HK.out, movedR, HG.out, HPRE.out])
      have R : Hid (_ ∧ _ ∧ _) := hidI (dput K1.out.1 hbig1.out ((H.out.bel K1.out.1.2.2.2).weak (fun k hk => .inl hk)))
      go_wp2_with fail
      obtain ⟨r1, r2, r3⟩ := R.out
      obtain ⟨z0, z1, z2, z3, z4, -⟩ := r3.c
      refine bodyPost_ret (v := .tuple #[.agg #[.int .i64 t.kind, .int .i64 t.n, .string ⟨t.s.toArray⟩, .slice a1 t.keys.length c1, .slice a2 t.l.length c2], .int .i64 1]) ?_ rfl ?_
      · simp only [set5] at z0 z1 z2 z3 z4
        simp [results, Tryd.results22, go_sem, z0, z1, z2, z3, z4]
      · exact ⟨_, by rw [HA.out], r1, by rw [HA.out]; exact r2⟩
    | false =>
      have HPRE := hidI hpre
      clear hpre
      by_cases hdf : o.path = o.frm
      · have q9 : (o.path == o.frm) = true := by rw [hdf]; simp
        have HDF := hidI hdf
        clear hdf
        have HA : Hid (oneR t o = (t, 0)) := hidI (by have h9 := HPRE.out; rw [HDF.out] at h9; simp [oneR, HK.out, movedR, HG.out, h9, HDF.out])
        have R : Hid (_ ∧ _ ∧ _) := hidI (dput K1.out.1 hbig1.out ((H.out.bel K1.out.1.2.2.2).weak (fun k hk => .inl hk)))
        go_wp2_with fail
        obtain ⟨r1, r2, r3⟩ := R.out
        obtain ⟨z0, z1, z2, z3, z4, -⟩ := r3.c
        refine bodyPost_ret (v := .tuple #[.agg #[.int .i64 t.kind, .int .i64 t.n, .string ⟨t.s.toArray⟩, .slice a1 t.keys.length c1, .slice a2 t.l.length c2], .int .i64 0]) ?_ rfl ?_
        · simp only [set5] at z0 z1 z2 z3 z4
          simp [results, Tryd.results22, go_sem, z0, z1, z2, z3, z4]
        · exact ⟨_, by rw [HA.out], r1, by rw [HA.out]; exact r2⟩
      · have q9 : (o.path == o.frm) = false := by rw [beq_eq_false_iff_ne]; exact hdf
        have HDF := hidI hdf
        clear hdf
        go_wp2_with fail
        refine (ralter2_is (w1.alloc (.cells #[.int .i64 x.kind, .int .i64 x.n, .string ⟨x.s.toArray⟩, .slice a5 x.keys.length c5, .slice a6 x.l.length c6] 25)) (fun k => ok k ∧ k < w.heap.size) t zeroT _ _ o.frm (by exact H.out.bel K1.out.1.2.2.2) (by exact in_zero _ _) hf N1.out cnt_zero).mono ?_
        rintro e w3 ⟨r9, rfl, hb, hy⟩
        obtain ⟨g8, hg8⟩ : ∃ g, changeR removedV (splitP o.frm) t = g := ⟨_, rfl⟩
        rw [hg8] at hy ⊢
        obtain ⟨y, ye⟩ := g8
        simp only at hy ⊢
        obtain ⟨b5, b6, d5, d6, rfl⟩ := hy.form
        have HC := hidI hg8
        have K3 : Hid (DB w t o a1 a2 a7 a8 c1 c2 c7 c8 (w3.alloc (.cells #[.int .i64 y.kind, .int .i64 y.n, .string ⟨y.s.toArray⟩, .slice b5 y.keys.length d5, .slice b6 y.l.length d6] 25)) ∧ BoxIs (w3.alloc (.cells #[.int .i64 y.kind, .int .i64 y.n, .string ⟨y.s.toArray⟩, .slice b5 y.keys.length d5, .slice b6 y.l.length d6] 25)) w1.heap.size (.int .i64 x.kind) (.int .i64 x.n) (.string ⟨x.s.toArray⟩) (.slice a5 x.keys.length c5) (.slice a6 x.l.length c6) ∧ BoxIs (w3.alloc (.cells #[.int .i64 y.kind, .int .i64 y.n, .string ⟨y.s.toArray⟩, .slice b5 y.keys.length d5, .slice b6 y.l.length d6] 25)) w3.heap.size (.int .i64 y.kind) (.int .i64 y.n) (.string ⟨y.s.toArray⟩) (.slice b5 y.keys.length d5) (.slice b6 y.l.length d6) ∧ In (w3.alloc (.cells #[.int .i64 y.kind, .int .i64 y.n, .string ⟨y.s.toArray⟩, .slice b5 y.keys.length d5, .slice b6 y.l.length d6] 25)) (fun k => ok k ∧ k < w.heap.size) x (.agg #[.int .i64 x.kind, .int .i64 x.n, .string ⟨x.s.toArray⟩, .slice a5 x.keys.length c5, .slice a6 x.l.length c6]) ∧ In (w3.alloc (.cells #[.int .i64 y.kind, .int .i64 y.n, .string ⟨y.s.toArray⟩, .slice b5 y.keys.length d5, .slice b6 y.l.length d6] 25)) (fun k => okN (fun k => ok k ∧ k < w.heap.size) (w1.alloc (.cells #[.int .i64 x.kind, .int .i64 x.n, .string ⟨x.s.toArray⟩, .slice a5 x.keys.length c5, .slice a6 x.l.length c6] 25)).heap.size k ∧ k < w3.heap.size) y (.agg #[.int .i64 y.kind, .int .i64 y.n, .string ⟨y.s.toArray⟩, .slice b5 y.keys.length d5, .slice b6 y.l.length d6])) := hidI ⟨K1.out.1.bel (bel_trans hb (bel_alloc _ _)), box_bel (bel_trans hb (bel_alloc _ _)) K1.out.2.1, heap_alloc_new w3 _, K1.out.2.2.bel (bel_trans hb (bel_alloc _ _)), (hy.low).bel (bel_alloc _ _)⟩
        have hbig3 : Hid (w.heap.size + 2 < (w3.alloc (.cells #[.int .i64 y.kind, .int .i64 y.n, .string ⟨y.s.toArray⟩, .slice b5 y.keys.length d5, .slice b6 y.l.length d6] 25)).heap.size) := hidI K3.out.1.big
        have h13 : Hid (w1.heap.size < w3.heap.size) := hidI (by have := hb.size; have e9 : (w1.alloc (.cells #[.int .i64 x.kind, .int .i64 x.n, .string ⟨x.s.toArray⟩, .slice a5 x.keys.length c5, .slice a6 x.l.length c6] 25)).heap.size = w1.heap.size + 1 := al_size _ _; omega)
        have hw3 : Hid (w.heap.size + 2 < w3.heap.size) := hidI (by have := hb.size; have := hbig1.out; omega)
        clear t0 t1 t2 t3 t4 o0 o1 o2 o3 o4 o5 o6 o7 x0 x1 x2 x3 x4 y0 y1 y2 y3 y4
        clear hb hy hg8
        by_cases hye : ye = 0
        · subst hye
          obtain ⟨g7, hg7⟩ : ∃ g, layR addedV o.path (splitP o.path) y x = g := ⟨_, rfl⟩
          obtain ⟨z, ze⟩ := g7
          have NY : Hid (cnt y ≤ 1000000000000) := hidI (by have := removed_cnt HC.out; omega)
          have HL := hidI hg7
          clear hg7
          obtain ⟨t0, t1, t2, t3, t4, -⟩ := K3.out.1.1.c
          obtain ⟨⟨o0, o1, o2, o3, o4, o5, o6, o7⟩, -⟩ := K3.out.1.2.1.c
          obtain ⟨x0, x1, x2, x3, x4, y0, y1, y2, y3, y4⟩ := K3.out.1.2.2.1.c
          obtain ⟨f0, f1, f2, f3, f4, -⟩ := K3.out.2.1.c
          obtain ⟨g0, g1, g2, g3, g4, k0, k1, k2, k3, k4⟩ := K3.out.2.2.1.c
          go_wp2_with fail
          refine (ralter1_is (w3.alloc (.cells #[.int .i64 y.kind, .int .i64 y.n, .string ⟨y.s.toArray⟩, .slice b5 y.keys.length d5, .slice b6 y.l.length d6] 25)) (fun k => okN (fun k => ok k ∧ k < w.heap.size) (w1.alloc (.cells #[.int .i64 x.kind, .int .i64 x.n, .string ⟨x.s.toArray⟩, .slice a5 x.keys.length c5, .slice a6 x.l.length c6] 25)).heap.size k ∧ k < w3.heap.size) y x _ _ o.path (by exact K3.out.2.2.2.2) (by exact K3.out.2.2.2.1.weak fun k h => ⟨.inl h, by have := h.2; have := hw3.out; omega⟩) hp NY.out NX.out).mono ?_
          rintro e w4 ⟨r9, rfl, hb, hy⟩
          rw [HL.out] at hy ⊢
          simp only at hy ⊢
          obtain ⟨b7, b8, d7, d8, rfl⟩ := hy.form
          have K4 : Hid (DB w t o a1 a2 a7 a8 c1 c2 c7 c8 (set5 w4 w3.heap.size (.int .i64 z.kind) (.int .i64 z.n) (.string ⟨z.s.toArray⟩) (.slice b7 z.keys.length d7) (.slice b8 z.l.length d8)) ∧ BoxIs (set5 w4 w3.heap.size (.int .i64 z.kind) (.int .i64 z.n) (.string ⟨z.s.toArray⟩) (.slice b7 z.keys.length d7) (.slice b8 z.l.length d8)) w3.heap.size (.int .i64 z.kind) (.int .i64 z.n) (.string ⟨z.s.toArray⟩) (.slice b7 z.keys.length d7) (.slice b8 z.l.length d8) ∧ In (set5 w4 w3.heap.size (.int .i64 z.kind) (.int .i64 z.n) (.string ⟨z.s.toArray⟩) (.slice b7 z.keys.length d7) (.slice b8 z.l.length d8)) (okN (fun k => ok k ∧ k < w.heap.size) w1.heap.size) z (.agg #[.int .i64 z.kind, .int .i64 z.n, .string ⟨z.s.toArray⟩, .slice b7 z.keys.length d7, .slice b8 z.l.length d8])) := hidI (by
            have h1 := K3.out.1.bel hb
            have h2 := box_bel hb K3.out.2.2.1
            refine ⟨h1.set hw3.out _ _ _ _ _, h2.set _ _ _ _ _, ?_⟩
            refine (hy.grown (set5_gb _ _ _ _ _ _ _) ?_).weak ?_
            · intro k hk e
              rcases hk with hk | hk
              · have := hk.2; omega
              · have e9 : (w3.alloc (.cells #[.int .i64 y.kind, .int .i64 y.n, .string ⟨y.s.toArray⟩, .slice b5 y.keys.length d5, .slice b6 y.l.length d6] 25)).heap.size = w3.heap.size + 1 := al_size _ _
                omega
            · intro k hk
              rcases hk with ⟨hk | hk, -⟩ | hk
              · exact .inl hk
              · have e9 : (w1.alloc (.cells #[.int .i64 x.kind, .int .i64 x.n, .string ⟨x.s.toArray⟩, .slice a5 x.keys.length c5, .slice a6 x.l.length c6] 25)).heap.size = w1.heap.size + 1 := al_size _ _
                exact .inr (by omega)
              · have e9 : (w3.alloc (.cells #[.int .i64 y.kind, .int .i64 y.n, .string ⟨y.s.toArray⟩, .slice b5 y.keys.length d5, .slice b6 y.l.length d6] 25)).heap.size = w3.heap.size + 1 := al_size _ _
                exact .inr (by have := h13.out; omega))
          have KB : Hid (BoxIs w4 w3.heap.size (.int .i64 y.kind) (.int .i64 y.n) (.string ⟨y.s.toArray⟩) (.slice b5 y.keys.length d5) (.slice b6 y.l.length d6)) := hidI (box_bel hb K3.out.2.2.1)
          clear t0 t1 t2 t3 t4 o0 o1 o2 o3 o4 o5 o6 o7 x0 x1 x2 x3 x4 y0 y1 y2 y3 y4
          clear f0 f1 f2 f3 f4
          clear g0 g1 g2 g3 g4 k0 k1 k2 k3 k4 hb hy
          obtain ⟨g0, g1, g2, g3, g4, k0, k1, k2, k3, k4⟩ := KB.out.c
          by_cases hze : ze = 0
          · subst hze
            have HA : Hid (oneR t o = (z, 0)) := hidI (by simp [oneR, HK.out, movedR, HG.out, HPRE.out, HDF.out, HC.out, HL.out])
            have R : Hid (_ ∧ _ ∧ _) := hidI (dput K4.out.1 hw1.out K4.out.2.2)
            obtain ⟨j0, j1, j2, j3, j4, -⟩ := K4.out.2.1.c
            obtain ⟨x0, x1, x2, x3, x4, y0, y1, y2, y3, y4⟩ := K4.out.1.2.2.1.c
            simp only [set5] at j0 j1 j2 j3 j4 x0 x1 x2 x3 x4 y0 y1 y2 y3 y4
            go_wp2_with fail
            obtain ⟨r1, r2, r3⟩ := R.out
            obtain ⟨z0, z1, z2, z3, z4, -⟩ := r3.c
            refine bodyPost_ret (v := .tuple #[.agg #[.int .i64 z.kind, .int .i64 z.n, .string ⟨z.s.toArray⟩, .slice b7 z.keys.length d7, .slice b8 z.l.length d8], .int .i64 0]) ?_ rfl ?_
            · simp only [set5] at z0 z1 z2 z3 z4
              simp [results, Tryd.results22, go_sem, z0, z1, z2, z3, z4]
            · exact ⟨_, by rw [HA.out], r1, by rw [HA.out]; exact r2⟩
          · have m1 : (ze != 0) = true := by rw [bne_iff_ne]; exact hze
            have m2 : (ze == 0) = false := by rw [beq_eq_false_iff_ne]; exact hze
            have mH := hidI hze
            clear hze
            obtain ⟨t0, t1, t2, t3, t4, -⟩ := K4.out.1.1.c
            obtain ⟨x0, x1, x2, x3, x4, y0, y1, y2, y3, y4⟩ := K4.out.1.2.2.1.c
            simp only [set5] at t0 t1 t2 t3 t4 x0 x1 x2 x3 x4 y0 y1 y2 y3 y4
            have hbig4 : Hid (w.heap.size + 2 < (set5 w4 w3.heap.size (.int .i64 z.kind) (.int .i64 z.n) (.string ⟨z.s.toArray⟩) (.slice b7 z.keys.length d7) (.slice b8 z.l.length d8)).heap.size) := hidI K4.out.1.big
            have HA : Hid (oneR t o = (t, ze)) := hidI (by simp [oneR, HK.out, movedR, HG.out, HPRE.out, HDF.out, HC.out, HL.out, mH.out])
            have R : Hid (_ ∧ _ ∧ _) := hidI (dput K4.out.1 hbig4.out ((H.out.bel K4.out.1.2.2.2).weak (fun k hk => .inl hk)))
            go_wp2_with fail
            obtain ⟨r1, r2, r3⟩ := R.out
            obtain ⟨z0, z1, z2, z3, z4, -⟩ := r3.c
            refine bodyPost_ret (v := .tuple #[.agg #[.int .i64 t.kind, .int .i64 t.n, .string ⟨t.s.toArray⟩, .slice a1 t.keys.length c1, .slice a2 t.l.length c2], .int .i64 ze]) ?_ rfl ?_
            · simp only [set5] at z0 z1 z2 z3 z4
              simp [results, Tryd.results22, go_sem, z0, z1, z2, z3, z4]
            · exact ⟨_, by rw [HA.out], r1, by rw [HA.out]; exact r2⟩
        · have n1 : (ye != 0) = true := by rw [bne_iff_ne]; exact hye
          have n2 : (ye == 0) = false := by rw [beq_eq_false_iff_ne]; exact hye
          have nH := hidI hye
          clear hye
          obtain ⟨t0, t1, t2, t3, t4, -⟩ := K3.out.1.1.c
          obtain ⟨⟨o0, o1, o2, o3, o4, o5, o6, o7⟩, -⟩ := K3.out.1.2.1.c
          obtain ⟨x0, x1, x2, x3, x4, y0, y1, y2, y3, y4⟩ := K3.out.1.2.2.1.c
          have HA : Hid (oneR t o = (t, ye)) := hidI (by simp [oneR, HK.out, movedR, HG.out, HPRE.out, HDF.out, HC.out, nH.out])
          have R : Hid (_ ∧ _ ∧ _) := hidI (dput K3.out.1 hbig3.out ((H.out.bel K3.out.1.2.2.2).weak (fun k hk => .inl hk)))
          go_wp2_with fail
          obtain ⟨r1, r2, r3⟩ := R.out
          obtain ⟨z0, z1, z2, z3, z4, -⟩ := r3.c
          refine bodyPost_ret (v := .tuple #[.agg #[.int .i64 t.kind, .int .i64 t.n, .string ⟨t.s.toArray⟩, .slice a1 t.keys.length c1, .slice a2 t.l.length c2], .int .i64 ye]) ?_ rfl ?_
          · simp only [set5] at z0 z1 z2 z3 z4
            simp [results, Tryd.results22, go_sem, z0, z1, z2, z3, z4]
          · exact ⟨_, by rw [HA.out], r1, by rw [HA.out]; exact r2⟩
  · have e1 : (xe != 0) = true := by rw [bne_iff_ne]; exact hxe
    have e2 : (xe == 0) = false := by rw [beq_eq_false_iff_ne]; exact hxe
    have eH := hidI hxe
    clear hxe
    obtain ⟨t0, t1, t2, t3, t4, -⟩ := K1.out.1.1.c
    obtain ⟨⟨o0, o1, o2, o3, o4, o5, o6, o7⟩, -⟩ := K1.out.1.2.1.c
    obtain ⟨x0, x1, x2, x3, x4, y0, y1, y2, y3, y4⟩ := K1.out.1.2.2.1.c
    have HA : Hid (oneR t o = (t, xe)) := hidI (by simp [oneR, HK.out, movedR, HG.out, eH.out])
    have R : Hid (_ ∧ _ ∧ _) := hidI (dput K1.out.1 hbig1.out ((H.out.bel K1.out.1.2.2.2).weak (fun k hk => .inl hk)))
    go_wp2_with fail
    obtain ⟨r1, r2, r3⟩ := R.out
    obtain ⟨z0, z1, z2, z3, z4, -⟩ := r3.c
    refine bodyPost_ret (v := .tuple #[.agg #[.int .i64 t.kind, .int .i64 t.n, .string ⟨t.s.toArray⟩, .slice a1 t.keys.length c1, .slice a2 t.l.length c2], .int .i64 xe]) ?_ rfl ?_
    · simp only [set5] at z0 z1 z2 z3 z4
      simp [results, Tryd.results22, go_sem, z0, z1, z2, z3, z4]
    · exact ⟨_, by rw [HA.out], r1, by rw [HA.out]; exact r2⟩
end Go.Proofs.YtaifciobaapehaaDoor

set_option linter.unusedSimpArgs false
set_option linter.unusedVariables false
namespace Go.Proofs.YtaifciobaapehaaDoor
open Go.RowKit

theorem lay_small {how : V → V → List UInt8 → Option V} {p : List UInt8} {sp : List (List UInt8) × Int} {v x z : V} (h : layR how p sp v x = (z, 0)) : cnt z ≤ 120 := by
  have hc : goodV z = true := by
    unfold layR at h
    split at h
    · simp at h
    · rename_i hx
      split at h
      · simp only [Prod.mk.injEq, and_true] at h
        rw [← h]; simpa using hx
      · exact (change_ok h).2.2.2.2
  rw [← good_ref] at hc
  simp only [Bool.and_eq_true, decide_eq_true_eq] at hc
  exact hc.1.2
theorem one_small {y z : V} {o : OpT} (h : oneR y o = (z, 0)) : z = y ∨ cnt z ≤ 120 := by
  unfold oneR at h
  split at h
  · exact .inr (lay_small h)
  split at h
  · exact .inr (removed_cnt h)
  split at h
  · exact .inr (lay_small h)
  split at h
  · unfold movedR at h
    split at h
    · simp only [Prod.mk.injEq] at h; exact .inl h.1.symm
    split at h
    · simp at h
    split at h
    · simp only [Prod.mk.injEq, and_true] at h; exact .inl h.symm
    split at h
    · simp only [Prod.mk.injEq] at h; exact .inl h.1.symm
    split at h
    · simp only [Prod.mk.injEq] at h; exact .inl h.1.symm
    · rename_i h9
      simp only [ne_eq, Decidable.not_not] at h9
      simp only [Prod.mk.injEq, and_true] at h
      exact .inr (lay_small (Prod.ext h h9))
  split at h
  · unfold copiedR at h
    split at h
    · simp only [Prod.mk.injEq] at h; exact .inl h.1.symm
    · exact .inr (lay_small h)
  split at h
  · simp only [Prod.mk.injEq] at h; exact .inl h.1.symm
  · simp at h
theorem rdo_is (w : World) (ok : Nat → Prop) (t : V) (o : OpT) (v ov : Value) (h : In w ok t v) (ho : OpIn w ok o ov) (hN : cnt t ≤ 100000000000) (hX : cnt o.value ≤ 100000000000) : Calls Tryd.prog 22 #[v, ov] w fun e w' => ∃ r, e = .returned (.tuple #[r, .int .i64 (oneR t o).2]) ∧ Below w.heap.size w w' ∧ In w' (okN ok w.heap.size) (oneR t o).1 r := by
  by_cases h1 : o.kind = 1
  · exact rdo_1 w ok t o v ov h ho hN hX h1
  by_cases h2 : o.kind = 2
  · exact rdo_2 w ok t o v ov h ho hN hX h2
  by_cases h3 : o.kind = 3
  · exact rdo_3 w ok t o v ov h ho hN hX h3
  by_cases h4 : o.kind = 4
  · exact rdo_4 w ok t o v ov h ho hN hX h4
  by_cases h5 : o.kind = 5
  · exact rdo_5 w ok t o v ov h ho hN hX h5
  by_cases h6 : o.kind = 6
  · exact rdo_6 w ok t o v ov h ho hN hX h6
  exact rdo_other w ok t o v ov h ho hN hX h1 h2 h3 h4 h5 h6
/- On the way. -/
def DoI (w : World) (ok : Nat → Prop) (os : List OpT) (t : V) (a1 a2 : Option Addr) (c1 c2 k : Nat) (wr : World) : Prop :=
  ∃ (y : V) (a5 a6 : Option Addr) (c5 c6 : Nat), runR oneR os t = runR oneR (os.drop k) y ∧ cnt y ≤ 100000000000 ∧ BoxIs wr w.heap.size (.int .i64 t.kind) (.int .i64 t.n) (.string ⟨t.s.toArray⟩) (.slice a1 t.keys.length c1) (.slice a2 t.l.length c2) ∧ BoxIs wr (w.heap.size + 1) (.int .i64 0) (.int .i64 0) (.string ⟨#[]⟩) (.slice none 0 0) (.slice none 0 0) ∧ BoxIs wr (w.heap.size + 2) (.int .i64 y.kind) (.int .i64 y.n) (.string ⟨y.s.toArray⟩) (.slice a5 y.keys.length c5) (.slice a6 y.l.length c6) ∧ Below w.heap.size w wr ∧ In wr (lowN ok w.heap.size (w.heap.size + 3)) y (.agg #[.int .i64 y.kind, .int .i64 y.n, .string ⟨y.s.toArray⟩, .slice a5 y.keys.length c5, .slice a6 y.l.length c6])
def DoS (w : World) (ok : Nat → Prop) (t y : V) (a1 a2 : Option Addr) (c1 c2 : Nat) (a5 a6 : Option Addr) (c5 c6 : Nat) (M : Nat) (wr : World) : Prop :=
  BoxIs wr w.heap.size (.int .i64 t.kind) (.int .i64 t.n) (.string ⟨t.s.toArray⟩) (.slice a1 t.keys.length c1) (.slice a2 t.l.length c2) ∧ BoxIs wr (w.heap.size + 1) (.int .i64 0) (.int .i64 0) (.string ⟨#[]⟩) (.slice none 0 0) (.slice none 0 0) ∧ BoxIs wr (w.heap.size + 2) (.int .i64 y.kind) (.int .i64 y.n) (.string ⟨y.s.toArray⟩) (.slice a5 y.keys.length c5) (.slice a6 y.l.length c6) ∧ Below w.heap.size w wr ∧ In wr (fun k => (lowN ok w.heap.size (w.heap.size + 3)) k ∧ k < M) y (.agg #[.int .i64 y.kind, .int .i64 y.n, .string ⟨y.s.toArray⟩, .slice a5 y.keys.length c5, .slice a6 y.l.length c6]) ∧ M ≤ wr.heap.size
theorem DoS.bel {w wr wr' : World} {ok : Nat → Prop} {t y : V} {a1 a2 a5 a6 : Option Addr} {c1 c2 c5 c6 M : Nat} (h : DoS w ok t y a1 a2 c1 c2 a5 a6 c5 c6 M wr) (hb : Below wr.heap.size wr wr') : DoS w ok t y a1 a2 c1 c2 a5 a6 c5 c6 M wr' :=
  ⟨box_bel hb h.1, box_bel hb h.2.1, box_bel hb h.2.2.1, bel_trans h.2.2.2.1 hb, h.2.2.2.2.1.bel hb, Nat.le_trans h.2.2.2.2.2 hb.size⟩
def DoZ (w : World) (ok : Nat → Prop) (t y z : V) (a1 a2 : Option Addr) (c1 c2 : Nat) (a5 a6 : Option Addr) (c5 c6 : Nat) (a3 a4 : Option Addr) (c3 c4 g8 : Nat) (wr : World) : Prop :=
  BoxIs wr w.heap.size (.int .i64 t.kind) (.int .i64 t.n) (.string ⟨t.s.toArray⟩) (.slice a1 t.keys.length c1) (.slice a2 t.l.length c2) ∧ BoxIs wr (w.heap.size + 1) (.int .i64 0) (.int .i64 0) (.string ⟨#[]⟩) (.slice none 0 0) (.slice none 0 0) ∧ BoxIs wr (w.heap.size + 2) (.int .i64 y.kind) (.int .i64 y.n) (.string ⟨y.s.toArray⟩) (.slice a5 y.keys.length c5) (.slice a6 y.l.length c6) ∧ Below w.heap.size w wr ∧ In wr (lowN ok w.heap.size (w.heap.size + 3)) z (.agg #[.int .i64 z.kind, .int .i64 z.n, .string ⟨z.s.toArray⟩, .slice a3 z.keys.length c3, .slice a4 z.l.length c4]) ∧ BoxIs wr g8 (.int .i64 z.kind) (.int .i64 z.n) (.string ⟨z.s.toArray⟩) (.slice a3 z.keys.length c3) (.slice a4 z.l.length c4)
theorem DoS.fresh2 {w W : World} {ok : Nat → Prop} {t y : V} {a1 a2 a5 a6 : Option Addr} {c1 c2 c5 c6 M : Nat} (_ : DoS w ok t y a1 a2 c1 c2 a5 a6 c5 c6 M (W.alloc (.cells #[.int .i64 0, .int .i64 0, .string ⟨#[]⟩, .slice none 0 0, .slice none 0 0] 25)).drew) : BoxIs (W.alloc (.cells #[.int .i64 0, .int .i64 0, .string ⟨#[]⟩, .slice none 0 0, .slice none 0 0] 25)).drew W.heap.size (.int .i64 0) (.int .i64 0) (.string ⟨#[]⟩) (.slice none 0 0) (.slice none 0 0) := heap_alloc_new W _
theorem do_new {w W : World} {ok okz : Nat → Prop} {t y z : V} {a1 a2 a3 a4 a5 a6 : Option Addr} {c1 c2 c3 c4 c5 c6 M : Nat} (h : DoS w ok t y a1 a2 c1 c2 a5 a6 c5 c6 M W) (hz : In W okz z (.agg #[.int .i64 z.kind, .int .i64 z.n, .string ⟨z.s.toArray⟩, .slice a3 z.keys.length c3, .slice a4 z.l.length c4])) (h1 : ∀ k, okz k → (lowN ok w.heap.size (w.heap.size + 3)) k) :
    DoZ w ok t y z a1 a2 c1 c2 a5 a6 c5 c6 a3 a4 c3 c4 W.heap.size (W.alloc (.cells #[.int .i64 z.kind, .int .i64 z.n, .string ⟨z.s.toArray⟩, .slice a3 z.keys.length c3, .slice a4 z.l.length c4] 25)) :=
  ⟨box_bel (bel_alloc _ _) h.1, box_bel (bel_alloc _ _) h.2.1, box_bel (bel_alloc _ _) h.2.2.1, bel_trans h.2.2.2.1 (bel_alloc _ _), (hz.bel (bel_alloc _ _)).weak h1, heap_alloc_new W _⟩
theorem DoS.fresh {w W : World} {ok : Nat → Prop} {t y : V} {a1 a2 a5 a6 : Option Addr} {c1 c2 c5 c6 M : Nat} (_ : DoS w ok t y a1 a2 c1 c2 a5 a6 c5 c6 M (W.alloc (.cells #[.int .i64 0, .int .i64 0, .string ⟨#[]⟩, .slice none 0 0, .slice none 0 0] 25))) : BoxIs (W.alloc (.cells #[.int .i64 0, .int .i64 0, .string ⟨#[]⟩, .slice none 0 0, .slice none 0 0] 25)) W.heap.size (.int .i64 0) (.int .i64 0) (.string ⟨#[]⟩) (.slice none 0 0) (.slice none 0 0) := heap_alloc_new W _
/- The answer is put into its box: g8. -/
theorem do_put {w W : World} {ok okz : Nat → Prop} {t y z : V} {a1 a2 a3 a4 a5 a6 : Option Addr} {c1 c2 c3 c4 c5 c6 M g8 : Nat} {u0 u1 u2 u3 u4 : Value} (h : DoS w ok t y a1 a2 c1 c2 a5 a6 c5 c6 M W) (hM : w.heap.size + 3 ≤ M) (hg : M ≤ g8) (hn : BoxIs W g8 u0 u1 u2 u3 u4) (hz : In W okz z (.agg #[.int .i64 z.kind, .int .i64 z.n, .string ⟨z.s.toArray⟩, .slice a3 z.keys.length c3, .slice a4 z.l.length c4])) (h1 : ∀ k, okz k → (lowN ok w.heap.size (w.heap.size + 3)) k) (h2 : ∀ k, okz k → k ≠ g8) :
    DoZ w ok t y z a1 a2 c1 c2 a5 a6 c5 c6 a3 a4 c3 c4 g8 (set5 W g8 (.int .i64 z.kind) (.int .i64 z.n) (.string ⟨z.s.toArray⟩) (.slice a3 z.keys.length c3) (.slice a4 z.l.length c4)) := by
  have g1 := set5_gb W g8 (.int .i64 z.kind) (.int .i64 z.n) (.string ⟨z.s.toArray⟩) (.slice a3 z.keys.length c3) (.slice a4 z.l.length c4)
  exact ⟨h.1.grown g1 (by simp; omega), h.2.1.grown g1 (by simp; omega), h.2.2.1.grown g1 (by simp; omega), bel_set5 h.2.2.2.1 (by omega) _ _ _ _ _, (hz.grown g1 h2).weak h1, hn.set _ _ _ _ _⟩

open Classical in
set_option maxRecDepth 100000 in
set_option maxHeartbeats 40000000 in
theorem rdoops_is (w : World) (ok : Nat → Prop) (t : V) (os : List OpT) (v ov : Value) (h : In w ok t v) (ho : OpsAre w ok os ov) (hN : cnt t ≤ 100000000000) (hX : ∀ o ∈ os, cnt o.value ≤ 100000000000) :
    Calls Tryd.prog 20 #[v, ov] w fun e w' => ∃ r, e = .returned (.tuple #[r, .int .i64 (allR oneR os t).2]) ∧ Below w.heap.size w w' ∧ In w' (okN ok w.heap.size) (allR oneR os t).1 r := by
  have H := hidI h.low
  have HOS := hidI ho
  have HX := hidI hX
  have olen := ho.1
  obtain ⟨l1, l2, l3⟩ := h.lens
  obtain ⟨a1, a2, c1, c2, rfl⟩ := h.form
  obtain ⟨oa, oc, rfl⟩ := ho.form
  clear h ho hX
  by_cases h20 : 20 < os.length
  · have e0 : (20 : Int) < (os.length : Int) := by omega
    have HA : Hid (allR oneR os t = (t, 2)) := hidI (by unfold allR; rw [if_pos h20])
    have HB : Hid (Below w.heap.size w ((w.alloc (.cells #[.int .i64 t.kind, .int .i64 t.n, .string ⟨t.s.toArray⟩, .slice a1 t.keys.length c1, .slice a2 t.l.length c2] 25)).alloc (.cells #[.int .i64 t.kind, .int .i64 t.n, .string ⟨t.s.toArray⟩, .slice a1 t.keys.length c1, .slice a2 t.l.length c2] 25))) := bel_trans (bel_alloc _ _) (bel_alloc _ _)
    have K := hidI ((H.out.bel HB.out).weak (low_out))
    clear h20
    go_enter Tryd.func20, Tryd.ntmps20
    go_wp2_with fail
    refine bodyPost_ret (v := .tuple #[.agg #[.int .i64 t.kind, .int .i64 t.n, .string ⟨t.s.toArray⟩, .slice a1 t.keys.length c1, .slice a2 t.l.length c2], .int .i64 2]) ?_ rfl ?_
    · simp [results, Tryd.results20, go_sem]
    · refine ⟨_, by rw [HA.out], HB.out, ?_⟩
      rw [HA.out]
      exact K.out
  · have e0 : ¬ ((20 : Int) < (os.length : Int)) := by omega
    have HR : Hid (allR oneR os t = if (runR oneR os t).2 ≠ 0 then (t, (runR oneR os t).2) else ((runR oneR os t).1, 0)) := hidI (by unfold allR; rw [if_neg h20])
    have B3 : Hid (∀ o1 o2 o3, Below w.heap.size w (((w.alloc o1).alloc o2).alloc o3)) := fun o1 o2 o3 => bel_trans (bel_trans (bel_alloc _ _) (bel_alloc _ _)) (bel_alloc _ _)
    have S0 : Hid (∀ W : World, W = ((w.alloc (.cells #[.int .i64 t.kind, .int .i64 t.n, .string ⟨t.s.toArray⟩, .slice a1 t.keys.length c1, .slice a2 t.l.length c2] 25)).alloc (.cells #[.int .i64 0, .int .i64 0, .string ⟨#[]⟩, .slice none 0 0, .slice none 0 0] 25)).alloc (.cells #[.int .i64 t.kind, .int .i64 t.n, .string ⟨t.s.toArray⟩, .slice a1 t.keys.length c1, .slice a2 t.l.length c2] 25) → DoI w ok os t a1 a2 c1 c2 0 W) := by
      rintro W rfl
      exact ⟨t, a1, a2, c1, c2, rfl, hN, h3a w _ _ _, h3b w _ _ _, h3c w _ _ _, B3.out _ _ _, (H.out.bel (B3.out _ _ _)).weak lowN_low⟩
    clear h20 hN
    go_enter Tryd.func20, Tryd.ntmps20
    go_wp2_with fail
    go_loopg [17] os.length (fun gk i wr => ∃ k : Nat, k ≤ os.length ∧ gk = os.length - k ∧ i = .int .i64 k ∧ DoI w ok os t a1 a2 c1 c2 k wr)
    case atStart => exact ⟨0, Nat.zero_le _, rfl, rfl, S0.out _ rfl⟩
    case round =>
      obtain ⟨k, hk, hgk, rfl, y, a5, a6, c5, c6, i1, i2, i3, i4, i5, i6, i7⟩ := hrel
      have GK := hidI hgk
      have I : Hid (runR oneR os t = runR oneR (os.drop k) y ∧ cnt y ≤ 100000000000 ∧ BoxIs wr w.heap.size (.int .i64 t.kind) (.int .i64 t.n) (.string ⟨t.s.toArray⟩) (.slice a1 t.keys.length c1) (.slice a2 t.l.length c2) ∧ BoxIs wr (w.heap.size + 1) (.int .i64 0) (.int .i64 0) (.string ⟨#[]⟩) (.slice none 0 0) (.slice none 0 0) ∧ BoxIs wr (w.heap.size + 2) (.int .i64 y.kind) (.int .i64 y.n) (.string ⟨y.s.toArray⟩) (.slice a5 y.keys.length c5) (.slice a6 y.l.length c6) ∧ Below w.heap.size w wr ∧ In wr (lowN ok w.heap.size (w.heap.size + 3)) y (.agg #[.int .i64 y.kind, .int .i64 y.n, .string ⟨y.s.toArray⟩, .slice a5 y.keys.length c5, .slice a6 y.l.length c6])) := ⟨i1, i2, i3, i4, i5, i6, i7⟩
      have hwsz := i5.lt
      clear hgk i1 i2 i3 i4 i5 i6 i7
      by_cases hlt : k < os.length
      · obtain ⟨b, off, a7, a8, c7, c8, rfl, hc1, hc2, g0, g1, g2, g3, g4, g5, g6, g7, g8⟩ := HOS.out.item hlt
        have OK := hidI (g8.low)
        have G0 := hidI g0
        have G1 := hidI g1
        have G2 := hidI g2
        have G3 := hidI g3
        have G4 := hidI g4
        have G5 := hidI g5
        have G6 := hidI g6
        have G7 := hidI g7
        have RS : Hid (runR oneR (os.drop k) y = if (oneR y os[k]).2 ≠ 0 then (y, (oneR y os[k]).2) else runR oneR (os.drop (k + 1)) (oneR y os[k]).1) := hidI (by rw [List.drop_eq_getElem_cons hlt, runR])
        have CY := hidI I.out.2.1
        have CO := hidI (HX.out os[k] (List.getElem_mem hlt))
        have SZ : Hid (w.heap.size + 3 ≤ wr.heap.size) := hidI hwsz
        have DD : Hid (DoS w ok t y a1 a2 c1 c2 a5 a6 c5 c6 wr.heap.size (wr.drewN 1)) := hidI ⟨I.out.2.2.1, I.out.2.2.2.1, I.out.2.2.2.2.1, bel_trans I.out.2.2.2.2.2.1 (bel_drewN _ 1), (I.out.2.2.2.2.2.2.low).bel (bel_drewN _ 1), Nat.le_refl _⟩
        obtain ⟨q, hq⟩ : ∃ q, oneR y os[k] = q := ⟨_, rfl⟩
        obtain ⟨z, ze⟩ := q
        have HQ := hidI hq
        have w1 : (0 : Int) ≤ (k : Int) := by omega
        have w2 : (k : Int) < (os.length : Int) := by omega
        rw [hq] at RS
        simp only at RS
        clear g0 g1 g2 g3 g4 g5 g6 g7 g8 hq
        go_upto_region 7 with fail
        go_cut [8, 9] (fun pv cv wc => ∃ (g8 : Nat) (z : V) (a3 a4 : Option Addr) (c3 c4 : Nat) (ze : Int), pv = .pointer (some ⟨g8, 0, none⟩) ∧ cv = .int .i64 ze ∧ oneR y os[k] = (z, ze) ∧ DoZ w ok t y z a1 a2 c1 c2 a5 a6 c5 c6 a3 a4 c3 c4 g8 wc)
        case first =>
          refine wp_region_T (fun wS => DoS w ok t y a1 a2 c1 c2 a5 a6 c5 c6 wr.heap.size wS) [10] (by kernel_rfl) (by exact DD.out) (fun hHeld => ?_)
          refine wpAnyT_take (i := 0) (v := ?_) [5, 6, 7, 8, 10, 11] (oi := _) rfl (by kernel_rfl) (by kernel_rfl) (by kernel_rfl) (by kernel_rfl) (fun _ _ _ h => h) (Or.inl ⟨by rfl, ?_⟩) hHeld ?_
          rotate_left
          · intro wS hSw
            obtain ⟨p0, p1, p2, p3, p4, -⟩ := hSw.2.2.1.c
            have g0 := cell_bel hSw.2.2.2.1 G0.out
            have g1 := cell_bel hSw.2.2.2.1 G1.out
            have g2 := cell_bel hSw.2.2.2.1 G2.out
            have g3 := cell_bel hSw.2.2.2.1 G3.out
            have g4 := cell_bel hSw.2.2.2.1 G4.out
            have g5 := cell_bel hSw.2.2.2.1 G5.out
            have g6 := cell_bel hSw.2.2.2.1 G6.out
            have g7 := cell_bel hSw.2.2.2.1 G7.out
            go_simp
            all_goals with_reducible rfl
          simp only [Act.put, List.setIfInBounds_toArray, List.set_cons_zero, List.set_cons_succ]
          refine wpAnyT_take (i := 1) (v := ?_) [3, 4, 5, 6, 7, 8, 10, 11] (oi := _) rfl (by kernel_rfl) (by kernel_rfl) (by kernel_rfl) (by kernel_rfl) (fun _ _ _ h => h) (Or.inl ⟨by rfl, ?_⟩) hHeld ?_
          rotate_left
          · intro wS hSw
            go_simp
            all_goals with_reducible rfl
          simp only [Act.put, List.setIfInBounds_toArray, List.set_cons_zero, List.set_cons_succ]
          refine wpAnyT_take (i := 2) (v := ?_) [3, 4, 5, 6, 7, 8, 10, 11] (oi := _) rfl (by kernel_rfl) (by kernel_rfl) (by kernel_rfl) (by kernel_rfl) (fun _ _ _ h => h) (Or.inl ⟨by rfl, ?_⟩) hHeld ?_
          rotate_left
          · intro wS hSw
            go_simp
            all_goals with_reducible rfl
          simp only [Act.put, List.setIfInBounds_toArray, List.set_cons_zero, List.set_cons_succ]
          refine wpAnyT_take (i := 3) (v := ?_) [4, 5, 6, 7, 8, 10, 11] (oi := _) rfl (by kernel_rfl) (by kernel_rfl) (by kernel_rfl) (by kernel_rfl) (fun _ _ _ h => h) (Or.inl ⟨by rfl, ?_⟩) hHeld ?_
          rotate_left
          · intro wS hSw
            go_simp
            all_goals with_reducible rfl
          simp only [Act.put, List.setIfInBounds_toArray, List.set_cons_zero, List.set_cons_succ]
          refine wpAnyT_take (i := 4) (v := ?_) [5, 6, 7, 8, 10, 11] (oi := _) rfl (by kernel_rfl) (by kernel_rfl) (by kernel_rfl) (by kernel_rfl) (fun _ _ _ h => h) (Or.inl ⟨by rfl, ?_⟩) hHeld ?_
          rotate_left
          · intro wS hSw
            obtain ⟨p0, p1, p2, p3, p4, -⟩ := hSw.2.2.1.c
            have g0 := cell_bel hSw.2.2.2.1 G0.out
            have g1 := cell_bel hSw.2.2.2.1 G1.out
            have g2 := cell_bel hSw.2.2.2.1 G2.out
            have g3 := cell_bel hSw.2.2.2.1 G3.out
            have g4 := cell_bel hSw.2.2.2.1 G4.out
            have g5 := cell_bel hSw.2.2.2.1 G5.out
            have g6 := cell_bel hSw.2.2.2.1 G6.out
            have g7 := cell_bel hSw.2.2.2.1 G7.out
            go_simp
            all_goals with_reducible rfl
          simp only [Act.put, List.setIfInBounds_toArray, List.set_cons_zero, List.set_cons_succ]
          refine wpAnyT_ready (rs := [5, 9]) (by kernel_rfl) (by simp) ?_
          refine AllReadyT.cons (i := 5) (o := _) rfl (fun K hK => ?_) ?_
          · go_simp
            refine (rdo_is _ (fun k => (lowN ok w.heap.size (w.heap.size + 3)) k ∧ k < wr.heap.size) y os[k] _ _ (by exact hHeld.2.2.2.2.1) (by exact (OK.out.bel hHeld.2.2.2.1).weak fun j hj => ⟨.inl hj, by have := hj.2; have := SZ.out; omega⟩) CY.out CO.out).mono ?_
            rintro e w5q ⟨r9, rfl, hb5, hr5⟩
            rw [HQ.out] at hr5 ⊢
            simp only at hr5 ⊢
            obtain ⟨a3, a4, c3, c4, rfl⟩ := hr5.form
            refine hK.out _ _ (hHeld.bel hb5) (fun hHeld2 => ?_)
            have R5 := hidI hr5.low
            have B5 := hidI hb5
            have HS5 := hidI hHeld2
            try replace NB := hidI (box_bel hb5 NB.out)
            clear hb5 hr5
            clear hK K
            replace hHeld := hHeld2
            clear hHeld2
            try simp only [Act.put, List.setIfInBounds_toArray, List.set_cons_zero, List.set_cons_succ]
            refine wpAnyT_take (i := 6) (v := ?_) [7, 8, 10, 11] (oi := _) rfl (by kernel_rfl) (by kernel_rfl) (by kernel_rfl) (by kernel_rfl) (fun _ _ _ h => h) (Or.inl ⟨by rfl, ?_⟩) hHeld ?_
            rotate_left
            · intro wS hSw
              go_simp
              all_goals with_reducible rfl
            simp only [Act.put, List.setIfInBounds_toArray, List.set_cons_zero, List.set_cons_succ]
            refine wpAnyT_take (i := 7) (v := ?_) [10, 11] (oi := _) rfl (by kernel_rfl) (by kernel_rfl) (by kernel_rfl) (by kernel_rfl) (fun _ _ _ h => h) (Or.inl ⟨by rfl, ?_⟩) hHeld ?_
            rotate_left
            · intro wS hSw
              go_simp
              all_goals with_reducible rfl
            simp only [Act.put, List.setIfInBounds_toArray, List.set_cons_zero, List.set_cons_succ]
            refine wpAnyT_takeY (i := 8) (v := ?_) (oi := _) rfl (by kernel_rfl) (by kernel_rfl) (by kernel_rfl) (by rfl) (fun _ _ _ h => h) (Or.inl ⟨by rfl, ?_⟩) hHeld ?_
            rotate_left
            · intro wS
              go_simp
              all_goals with_reducible rfl
            simp only [Act.put, List.setIfInBounds_toArray, List.set_cons_zero, List.set_cons_succ]
            refine wpAnyT_ready (rs := [9]) (by kernel_rfl) (by simp) ?_
            refine AllReadyT.cons (i := 9) (o := _) rfl (fun K hK => ?_) ?_
            · go_simp
              refine hK.out _ _ (hHeld.bel (bel_alloc _ _)) (fun hHeld2 => ?_)
              first | (have NB := hidI hHeld2.fresh) | (have NB := hidI hHeld2.fresh2)
              try (have FINA := hidI (do_new HS5.out R5.out (by intro k hk; rcases hk.1 with h8 | h8; exact h8.1; have h9 : wr.heap.size ≤ k := (by first | exact h8 | exact Nat.le_trans (bel_alloc wr (.cells #[.int .i64 0, .int .i64 0, .string ⟨#[]⟩, .slice none 0 0, .slice none 0 0] 25)).size h8); exact .inr (by have := SZ.out; omega))); clear R5)
              clear hK K
              replace hHeld := hHeld2
              clear hHeld2
              try simp only [Act.put, List.setIfInBounds_toArray, List.set_cons_zero, List.set_cons_succ]
              obtain ⟨n0, n1, n2, n3, n4, m0, m1, m2, m3, m4⟩ := NB.out.c
              try (have FINB := hidI (do_put HS5.out SZ.out (Nat.le_refl _) NB.out R5.out (by intro k hk; rcases hk.1 with h8 | h8; exact h8.1; have h9 : wr.heap.size ≤ k := (by first | exact h8 | exact Nat.le_trans (bel_alloc wr (.cells #[.int .i64 0, .int .i64 0, .string ⟨#[]⟩, .slice none 0 0, .slice none 0 0] 25)).size h8); exact .inr (by have := SZ.out; omega)) (by intro k hk e; rcases hk.1 with h8 | h8; exact absurd (e ▸ h8.2) (Nat.lt_irrefl _); have h7 : (wr.alloc (.cells #[.int .i64 0, .int .i64 0, .string ⟨#[]⟩, .slice none 0 0, .slice none 0 0] 25)).heap.size ≤ k := h8; have h6 := al_size wr (.cells #[.int .i64 0, .int .i64 0, .string ⟨#[]⟩, .slice none 0 0, .slice none 0 0] 25); omega)); clear R5)
              refine wpAnyT_last (i := 10) (o := _) (by kernel_rfl) (by rfl) rfl (fun K hK => ?_)
              go_simp
              refine hK.out _ _ ?_
              clear hK K
              try simp only [Act.put, List.setIfInBounds_toArray, List.set_cons_zero, List.set_cons_succ]
              refine wpAnyT_last (i := 11) (o := _) (by kernel_rfl) (by rfl) rfl (fun K hK => ?_)
              go_simp
              refine hK.out _ _ ?_
              clear hK K
              try simp only [Act.put, List.setIfInBounds_toArray, List.set_cons_zero, List.set_cons_succ]
              refine wpAnyT_done (by kernel_rfl) ?_ _
              clear hHeld
              go_wp2_with fail
              go_meet
              case rel => first | exact ⟨_, z, a3, a4, c3, c4, ze, rfl, rfl, HQ.out, FINA.out⟩ | exact ⟨_, z, a3, a4, c3, c4, ze, rfl, rfl, HQ.out, FINB.out⟩
            exact AllReadyT.nil
          refine AllReadyT.cons (i := 9) (o := _) rfl (fun K hK => ?_) ?_
          · go_simp
            refine hK.out _ _ (hHeld.bel (bel_alloc _ _)) (fun hHeld2 => ?_)
            first | (have NB := hidI hHeld2.fresh) | (have NB := hidI hHeld2.fresh2)
            try (have FINA := hidI (do_new HS5.out R5.out (by intro k hk; rcases hk.1 with h8 | h8; exact h8.1; have h9 : wr.heap.size ≤ k := (by first | exact h8 | exact Nat.le_trans (bel_alloc wr (.cells #[.int .i64 0, .int .i64 0, .string ⟨#[]⟩, .slice none 0 0, .slice none 0 0] 25)).size h8); exact .inr (by have := SZ.out; omega))); clear R5)
            clear hK K
            replace hHeld := hHeld2
            clear hHeld2
            try simp only [Act.put, List.setIfInBounds_toArray, List.set_cons_zero, List.set_cons_succ]
            refine wpAnyT_ready (rs := [5]) (by kernel_rfl) (by simp) ?_
            refine AllReadyT.cons (i := 5) (o := _) rfl (fun K hK => ?_) ?_
            · go_simp
              refine (rdo_is _ (fun k => (lowN ok w.heap.size (w.heap.size + 3)) k ∧ k < wr.heap.size) y os[k] _ _ (by exact hHeld.2.2.2.2.1) (by exact (OK.out.bel hHeld.2.2.2.1).weak fun j hj => ⟨.inl hj, by have := hj.2; have := SZ.out; omega⟩) CY.out CO.out).mono ?_
              rintro e w5q ⟨r9, rfl, hb5, hr5⟩
              rw [HQ.out] at hr5 ⊢
              simp only at hr5 ⊢
              obtain ⟨a3, a4, c3, c4, rfl⟩ := hr5.form
              refine hK.out _ _ (hHeld.bel hb5) (fun hHeld2 => ?_)
              have R5 := hidI hr5.low
              have B5 := hidI hb5
              have HS5 := hidI hHeld2
              try replace NB := hidI (box_bel hb5 NB.out)
              clear hb5 hr5
              clear hK K
              replace hHeld := hHeld2
              clear hHeld2
              try simp only [Act.put, List.setIfInBounds_toArray, List.set_cons_zero, List.set_cons_succ]
              refine wpAnyT_take (i := 6) (v := ?_) [7, 8, 10, 11] (oi := _) rfl (by kernel_rfl) (by kernel_rfl) (by kernel_rfl) (by kernel_rfl) (fun _ _ _ h => h) (Or.inl ⟨by rfl, ?_⟩) hHeld ?_
              rotate_left
              · intro wS hSw
                go_simp
                all_goals with_reducible rfl
              simp only [Act.put, List.setIfInBounds_toArray, List.set_cons_zero, List.set_cons_succ]
              refine wpAnyT_take (i := 7) (v := ?_) [10, 11] (oi := _) rfl (by kernel_rfl) (by kernel_rfl) (by kernel_rfl) (by kernel_rfl) (fun _ _ _ h => h) (Or.inl ⟨by rfl, ?_⟩) hHeld ?_
              rotate_left
              · intro wS hSw
                go_simp
                all_goals with_reducible rfl
              simp only [Act.put, List.setIfInBounds_toArray, List.set_cons_zero, List.set_cons_succ]
              refine wpAnyT_takeY (i := 8) (v := ?_) (oi := _) rfl (by kernel_rfl) (by kernel_rfl) (by kernel_rfl) (by rfl) (fun _ _ _ h => h) (Or.inl ⟨by rfl, ?_⟩) hHeld ?_
              rotate_left
              · intro wS
                go_simp
                all_goals with_reducible rfl
              simp only [Act.put, List.setIfInBounds_toArray, List.set_cons_zero, List.set_cons_succ]
              obtain ⟨n0, n1, n2, n3, n4, m0, m1, m2, m3, m4⟩ := NB.out.c
              try (have FINB := hidI (do_put HS5.out SZ.out (Nat.le_refl _) NB.out R5.out (by intro k hk; rcases hk.1 with h8 | h8; exact h8.1; have h9 : wr.heap.size ≤ k := (by first | exact h8 | exact Nat.le_trans (bel_alloc wr (.cells #[.int .i64 0, .int .i64 0, .string ⟨#[]⟩, .slice none 0 0, .slice none 0 0] 25)).size h8); exact .inr (by have := SZ.out; omega)) (by intro k hk e; rcases hk.1 with h8 | h8; exact absurd (e ▸ h8.2) (Nat.lt_irrefl _); have h7 : (wr.alloc (.cells #[.int .i64 0, .int .i64 0, .string ⟨#[]⟩, .slice none 0 0, .slice none 0 0] 25)).heap.size ≤ k := h8; have h6 := al_size wr (.cells #[.int .i64 0, .int .i64 0, .string ⟨#[]⟩, .slice none 0 0, .slice none 0 0] 25); omega)); clear R5)
              refine wpAnyT_last (i := 10) (o := _) (by kernel_rfl) (by rfl) rfl (fun K hK => ?_)
              go_simp
              refine hK.out _ _ ?_
              clear hK K
              try simp only [Act.put, List.setIfInBounds_toArray, List.set_cons_zero, List.set_cons_succ]
              refine wpAnyT_last (i := 11) (o := _) (by kernel_rfl) (by rfl) rfl (fun K hK => ?_)
              go_simp
              refine hK.out _ _ ?_
              clear hK K
              try simp only [Act.put, List.setIfInBounds_toArray, List.set_cons_zero, List.set_cons_succ]
              refine wpAnyT_done (by kernel_rfl) ?_ _
              clear hHeld
              go_wp2_with fail
              go_meet
              case rel => first | exact ⟨_, z, a3, a4, c3, c4, ze, rfl, rfl, HQ.out, FINA.out⟩ | exact ⟨_, z, a3, a4, c3, c4, ze, rfl, rfl, HQ.out, FINB.out⟩
            exact AllReadyT.nil
          exact AllReadyT.nil
        case rest =>
          obtain ⟨g8, z', a3, a4, c3, c4, ze', rfl, rfl, hq, hZ⟩ := hcut
          rw [HQ.out] at hq
          simp only [Prod.mk.injEq] at hq
          obtain ⟨hq1, hq2⟩ := hq
          subst hq1
          subst hq2
          have K := hidI hZ
          clear hZ DD
          by_cases hze : ze = 0
          · subst hze
            have FIN : Hid (DoI w ok os t a1 a2 c1 c2 (k + 1) (set5 wc (w.heap.size + 2) (.int .i64 z.kind) (.int .i64 z.n) (.string ⟨z.s.toArray⟩) (.slice a3 z.keys.length c3) (.slice a4 z.l.length c4))) := by
              have g1 := set5_gb wc (w.heap.size + 2) (.int .i64 z.kind) (.int .i64 z.n) (.string ⟨z.s.toArray⟩) (.slice a3 z.keys.length c3) (.slice a4 z.l.length c4)
              refine ⟨z, a3, a4, c3, c4, ?_, ?_, K.out.1.grown g1 (by simp), K.out.2.1.grown g1 (by simp), K.out.2.2.1.set _ _ _ _ _, bel_set5 K.out.2.2.2.1 (by omega) _ _ _ _ _, K.out.2.2.2.2.1.box (by omega) (by omega) _ _ _ _ _⟩
              · rw [I.out.1, RS.out]; simp
              · rcases one_small HQ.out with h9 | h9
                · rw [h9]; exact CY.out
                · omega
            obtain ⟨p0, p1, p2, p3, p4, p5, p6, p7, p8, p9⟩ := K.out.2.2.1.c
            obtain ⟨q0, q1, q2, q3, q4, -⟩ := K.out.2.2.2.2.2.c
            clear K
            go_wp2_with fail
            go_roundg (os.length - (k + 1))
            case measure => rw [GK.out]; omega
            case rel => exact ⟨k + 1, hlt, rfl, by go_num, FIN.out⟩
          · have e1 : (ze != 0) = true := by rw [bne_iff_ne]; exact hze
            have e2 : (ze == 0) = false := by rw [beq_eq_false_iff_ne]; exact hze
            have HZE := hidI hze
            clear hze
            obtain ⟨p0, p1, p2, p3, p4, -⟩ := (K.out.1).c
            obtain ⟨x0, x1, x2, x3, x4, y0, y1, y2, y3, y4⟩ := (K.out.2.1).c
            have Z : Hid (_ ∧ _) := hidI (set_out (C := (wc).heap.size) (g := w.heap.size + 1) ((H.out.bel K.out.2.2.2.1).weak (lowN_low (C := (wc).heap.size))) K.out.2.2.2.1 (by omega) (K.out.2.1).lt)
            have ZB : Hid _ := hidI ((K.out.2.1).set (.int .i64 t.kind) (.int .i64 t.n) (.string ⟨t.s.toArray⟩) (.slice a1 t.keys.length c1) (.slice a2 t.l.length c2))
            have HA : Hid (allR oneR os t = (t, ze)) := hidI (by rw [HR.out, I.out.1, RS.out, if_pos HZE.out]; simp only; rw [if_pos HZE.out])
            clear K
            go_wp2_with fail
            obtain ⟨z0, z1, z2, z3, z4, -⟩ := ZB.out.c
            refine bodyPost_ret (v := .tuple #[.agg #[.int .i64 t.kind, .int .i64 t.n, .string ⟨t.s.toArray⟩, .slice a1 t.keys.length c1, .slice a2 t.l.length c2], .int .i64 ze]) ?_ rfl ?_
            · simp only [set5] at z0 z1 z2 z3 z4
              simp [results, Tryd.results20, go_sem, z0, z1, z2, z3, z4]
            · refine ⟨_, by rw [HA.out], Z.out.1, ?_⟩
              rw [HA.out]
              exact Z.out.2
      · have hke : k = os.length := by omega
        subst hke
        have HA : Hid (allR oneR os t = (y, 0)) := hidI (by rw [HR.out, I.out.1, List.drop_length]; simp [runR])
        obtain ⟨p0, p1, p2, p3, p4, -⟩ := I.out.2.2.2.2.1.c
        obtain ⟨x0, x1, x2, x3, x4, y0, y1, y2, y3, y4⟩ := I.out.2.2.2.1.c
        have Z : Hid (_ ∧ _) := hidI (set_out (g := w.heap.size + 1) I.out.2.2.2.2.2.2 I.out.2.2.2.2.2.1 (by omega) (by omega))
        have ZB : Hid _ := hidI (I.out.2.2.2.1.set (.int .i64 y.kind) (.int .i64 y.n) (.string ⟨y.s.toArray⟩) (.slice a5 y.keys.length c5) (.slice a6 y.l.length c6))
        go_wp2_with fail
        obtain ⟨z0, z1, z2, z3, z4, -⟩ := ZB.out.c
        refine bodyPost_ret (v := .tuple #[.agg #[.int .i64 y.kind, .int .i64 y.n, .string ⟨y.s.toArray⟩, .slice a5 y.keys.length c5, .slice a6 y.l.length c6], .int .i64 0]) ?_ rfl ?_
        · simp only [set5] at z0 z1 z2 z3 z4
          simp [results, Tryd.results20, go_sem, z0, z1, z2, z3, z4]
        · refine ⟨_, by rw [HA.out], Z.out.1, ?_⟩
          rw [HA.out]
          exact Z.out.2
end Go.Proofs.YtaifciobaapehaaDoor
