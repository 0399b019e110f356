/- What copied of package patch does. -/
import Derived.Test.YthaoelchpaofkacDoorYt
import Derived.Test.YthaoelchpaofkacDoorYb
set_option linter.unusedSimpArgs false
set_option linter.unusedVariables false
namespace Go.Proofs.YthaoelchpaofkacDoor
open Go.RowKit

set_option maxRecDepth 100000 in
set_option maxHeartbeats 40000000 in
theorem copied_is (w : World) (ok : Nat → Prop) (t : V) (v : Value) (frm dst : List UInt8) (h : In w ok t v) (hf : frm.length ≤ 140737488351232) (hd : dst.length ≤ 140737488351232) (hM : GlobM w) :
    Calls Tryd.prog 30 #[v, str frm, str dst] w fun e w' => ∃ r, e = .returned (.tuple #[r, .int .i64 (copiedR t frm dst).2]) ∧ Below w.heap.size w w' ∧ In w' (okN ok w.heap.size) (copiedR t frm dst).1 r := by
  have H := hidI h.low
  have HMM := hidI hM
  obtain ⟨l1, l2, l3⟩ := h.lens
  obtain ⟨a1, a2, c1, c2, rfl⟩ := h.form
  clear h hM
  have B2 : Hid (∀ o1 o2, Below w.heap.size w ((w.alloc o1).alloc o2)) := fun o1 o2 => bel_trans (bel_alloc _ _) (bel_alloc _ _)
  unfold str
  go_enter Tryd.func30, Tryd.ntmps30
  go_wp2_with fail
  refine (get_is _ (fun k => ok k ∧ k < w.heap.size) t _ frm (by exact H.out.bel (B2.out _ _)) hf (by exact HMM.out.bel (B2.out _ _))).mono ?_
  rintro e w1 ⟨r, rfl, hb1, hr⟩
  obtain ⟨g, hg⟩ : ∃ g, getR (splitP frm) t = g := ⟨_, rfl⟩
  rw [hg] at hr ⊢
  obtain ⟨x, xe⟩ := g
  simp only at hr ⊢
  have HG := hidI hg
  obtain ⟨a7, a8, c7, c8, rfl⟩ := hr.form
  have hbb := bel_trans hb1 (bel_alloc w1 (.cells #[.int .i64 x.kind, .int .i64 x.n, .string ⟨x.s.toArray⟩, .slice a7 x.keys.length c7, .slice a8 x.l.length c8] 25))
  have K : Hid (BoxIs (w1.alloc (.cells #[.int .i64 x.kind, .int .i64 x.n, .string ⟨x.s.toArray⟩, .slice a7 x.keys.length c7, .slice a8 x.l.length c8] 25)) w.heap.size (.int .i64 t.kind) (.int .i64 t.n) (.string ⟨t.s.toArray⟩) (.slice a1 t.keys.length c1) (.slice a2 t.l.length c2) ∧ BoxIs (w1.alloc (.cells #[.int .i64 x.kind, .int .i64 x.n, .string ⟨x.s.toArray⟩, .slice a7 x.keys.length c7, .slice a8 x.l.length c8] 25)) (w.heap.size + 1) (.int .i64 0) (.int .i64 0) (.string ⟨#[]⟩) (.slice none 0 0) (.slice none 0 0) ∧ Below w.heap.size w (w1.alloc (.cells #[.int .i64 x.kind, .int .i64 x.n, .string ⟨x.s.toArray⟩, .slice a7 x.keys.length c7, .slice a8 x.l.length c8] 25)) ∧ BoxIs (w1.alloc (.cells #[.int .i64 x.kind, .int .i64 x.n, .string ⟨x.s.toArray⟩, .slice a7 x.keys.length c7, .slice a8 x.l.length c8] 25)) w1.heap.size (.int .i64 x.kind) (.int .i64 x.n) (.string ⟨x.s.toArray⟩) (.slice a7 x.keys.length c7) (.slice a8 x.l.length c8) ∧ In (w1.alloc (.cells #[.int .i64 x.kind, .int .i64 x.n, .string ⟨x.s.toArray⟩, .slice a7 x.keys.length c7, .slice a8 x.l.length c8] 25)) (fun k => ok k ∧ k < w.heap.size) x (.agg #[.int .i64 x.kind, .int .i64 x.n, .string ⟨x.s.toArray⟩, .slice a7 x.keys.length c7, .slice a8 x.l.length c8])) := ⟨box_bel hbb (h2a w _ _), box_bel hbb (h2b w _ _), bel_trans (B2.out _ _) hbb, heap_alloc_new w1 _, hr.bel (bel_alloc _ _)⟩
  clear hr hb1 hbb hg
  by_cases hxe : xe = 0
  · subst hxe
    have hnice : Hid (Nice x) := hidI (by obtain ⟨q1, q2, q3⟩ := get_good HG.out; exact nice_get _ _ _ (nice_of q1) q3)
    have hszA := K.out.2.1.lt
    have conT : Hid (∀ W, W.heap = (w1.alloc (.cells #[.int .i64 x.kind, .int .i64 x.n, .string ⟨x.s.toArray⟩, .slice a7 x.keys.length c7, .slice a8 x.l.length c8] 25)).heap → W.os = (w1.alloc (.cells #[.int .i64 x.kind, .int .i64 x.n, .string ⟨x.s.toArray⟩, .slice a7 x.keys.length c7, .slice a8 x.l.length c8] 25)).os → W.tape = (w1.alloc (.cells #[.int .i64 x.kind, .int .i64 x.n, .string ⟨x.s.toArray⟩, .slice a7 x.keys.length c7, .slice a8 x.l.length c8] 25)).tape → W.output = (w1.alloc (.cells #[.int .i64 x.kind, .int .i64 x.n, .string ⟨x.s.toArray⟩, .slice a7 x.keys.length c7, .slice a8 x.l.length c8] 25)).output → Calls Tryd.prog 49 #[.agg #[.int .i64 x.kind, .int .i64 x.n, .string ⟨x.s.toArray⟩, .slice a7 x.keys.length c7, .slice a8 x.l.length c8]] W fun e w' => ∃ b7 b8 d7 d8, e = .returned (.agg #[.int .i64 x.kind, .int .i64 x.n, .string ⟨x.s.toArray⟩, .slice b7 x.keys.length d7, .slice b8 x.l.length d8]) ∧ (In w' (fun k => (w1.alloc (.cells #[.int .i64 x.kind, .int .i64 x.n, .string ⟨x.s.toArray⟩, .slice a7 x.keys.length c7, .slice a8 x.l.length c8] 25)).heap.size ≤ k) x (.agg #[.int .i64 x.kind, .int .i64 x.n, .string ⟨x.s.toArray⟩, .slice b7 x.keys.length d7, .slice b8 x.l.length d8])) ∧ BoxIs w' w.heap.size (.int .i64 t.kind) (.int .i64 t.n) (.string ⟨t.s.toArray⟩) (.slice a1 t.keys.length c1) (.slice a2 t.l.length c2) ∧ BoxIs w' (w.heap.size + 1) (.int .i64 0) (.int .i64 0) (.string ⟨#[]⟩) (.slice none 0 0) (.slice none 0 0) ∧ Below w.heap.size w w') := by
      intro W e1 e2 e3 e4
      have hbW := bel_of0 e1 e2 e3 e4
      have hsz : W.heap.size = (w1.alloc (.cells #[.int .i64 x.kind, .int .i64 x.n, .string ⟨x.s.toArray⟩, .slice a7 x.keys.length c7, .slice a8 x.l.length c8] 25)).heap.size := by rw [e1]
      refine (twin_is W _ x _ (K.out.2.2.2.2.bel hbW) hnice.out).mono ?_
      rintro e w' ⟨r, rfl, hb, hr⟩
      obtain ⟨b7, b8, d7, d8, rfl⟩ := hr.form
      rw [hsz] at hr
      have hb' := bel_trans hbW hb
      exact ⟨b7, b8, d7, d8, rfl, hr, box_bel hb' K.out.1, box_bel hb' K.out.2.1, bel_trans K.out.2.2.1 hb'⟩
    have conA : Hid (∀ W b7 b8 d7 d8, In W (fun k => (w1.alloc (.cells #[.int .i64 x.kind, .int .i64 x.n, .string ⟨x.s.toArray⟩, .slice a7 x.keys.length c7, .slice a8 x.l.length c8] 25)).heap.size ≤ k) x (.agg #[.int .i64 x.kind, .int .i64 x.n, .string ⟨x.s.toArray⟩, .slice b7 x.keys.length d7, .slice b8 x.l.length d8]) → (BoxIs W w.heap.size (.int .i64 t.kind) (.int .i64 t.n) (.string ⟨t.s.toArray⟩) (.slice a1 t.keys.length c1) (.slice a2 t.l.length c2) ∧ BoxIs W (w.heap.size + 1) (.int .i64 0) (.int .i64 0) (.string ⟨#[]⟩) (.slice none 0 0) (.slice none 0 0) ∧ Below w.heap.size w W) → Calls Tryd.prog 24 #[.agg #[.int .i64 t.kind, .int .i64 t.n, .string ⟨t.s.toArray⟩, .slice a1 t.keys.length c1, .slice a2 t.l.length c2], .string ⟨dst.toArray⟩, .agg #[.int .i64 x.kind, .int .i64 x.n, .string ⟨x.s.toArray⟩, .slice b7 x.keys.length d7, .slice b8 x.l.length d8]] W fun e w' => ∃ (z : V) (a3 a4 : Option Addr) (c3 c4 : Nat) (ze : Int), e = .returned (.tuple #[.agg #[.int .i64 z.kind, .int .i64 z.n, .string ⟨z.s.toArray⟩, .slice a3 z.keys.length c3, .slice a4 z.l.length c4], .int .i64 ze]) ∧ BoxIs w' (w.heap.size + 1) (.int .i64 0) (.int .i64 0) (.string ⟨#[]⟩) (.slice none 0 0) (.slice none 0 0) ∧
        (copiedR t frm dst = (z, ze)) ∧ Below w.heap.size w (set5 w' (w.heap.size + 1) (.int .i64 z.kind) (.int .i64 z.n) (.string ⟨z.s.toArray⟩) (.slice a3 z.keys.length c3) (.slice a4 z.l.length c4)) ∧ In (set5 w' (w.heap.size + 1) (.int .i64 z.kind) (.int .i64 z.n) (.string ⟨z.s.toArray⟩) (.slice a3 z.keys.length c3) (.slice a4 z.l.length c4)) (okN ok w.heap.size) z (.agg #[.int .i64 z.kind, .int .i64 z.n, .string ⟨z.s.toArray⟩, .slice a3 z.keys.length c3, .slice a4 z.l.length c4]) ∧ BoxIs (set5 w' (w.heap.size + 1) (.int .i64 z.kind) (.int .i64 z.n) (.string ⟨z.s.toArray⟩) (.slice a3 z.keys.length c3) (.slice a4 z.l.length c4)) (w.heap.size + 1) (.int .i64 z.kind) (.int .i64 z.n) (.string ⟨z.s.toArray⟩) (.slice a3 z.keys.length c3) (.slice a4 z.l.length c4)) := by
      intro W b7 b8 d7 d8 he hW
      refine (add_is W (lowN ok w.heap.size (w1.alloc (.cells #[.int .i64 x.kind, .int .i64 x.n, .string ⟨x.s.toArray⟩, .slice a7 x.keys.length c7, .slice a8 x.l.length c8] 25)).heap.size) t x _ _ dst ((H.out.bel hW.2.2).weak lowN_low) (he.weak fun k hk => .inr hk) hd (HMM.out.bel hW.2.2)).mono ?_
      rintro e w' ⟨r, rfl, hb, hr⟩
      obtain ⟨g, hg⟩ : ∃ g, layR addedV dst (splitP dst) t x = g := ⟨_, rfl⟩
      rw [hg] at hr ⊢
      obtain ⟨z, ze⟩ := g
      simp only at hr ⊢
      obtain ⟨a3, a4, c3, c4, rfl⟩ := hr.form
      have hbx := box_bel hb hW.2.1
      have hszW := hW.2.1.lt
      have hgs := set5_gb w' (w.heap.size + 1) (.int .i64 z.kind) (.int .i64 z.n) (.string ⟨z.s.toArray⟩) (.slice a3 z.keys.length c3) (.slice a4 z.l.length c4)
      refine ⟨z, a3, a4, c3, c4, ze, rfl, hbx, by unfold copiedR; rw [HG.out]; simp only [ne_eq, not_true_eq_false, if_false]; exact hg, bel_set5 (bel_trans hW.2.2 hb) (Nat.le_succ _) _ _ _ _ _, ?_, hbx.set _ _ _ _ _⟩
      refine (hr.grown hgs ?_).weak ?_
      · intro k hk e
        rcases hk with hk | hk
        · exact lowN_ne (by omega) hszA k hk e
        · omega
      · intro k hk
        rcases hk with hk | hk
        · exact lowN_out (by omega) k hk
        · exact .inr (by omega)
    obtain ⟨p0, p1, p2, p3, p4, -⟩ := K.out.1.c
    obtain ⟨q0, q1, q2, q3, q4, -⟩ := K.out.2.2.2.1.c
    go_upto_region 4 with fail
    go_region_with (first
      | (go_at_call 49; refine (conT.out _ (by rfl) (by rfl) (by rfl) (by rfl)).mono ?_; rintro e wt ⟨b7, b8, d7, d8, rfl, hem, hkt⟩; clear p0 p1 p2 p3 p4; obtain ⟨p0, p1, p2, p3, p4, -⟩ := hkt.1.c; have EM := hidI hem; have KT := hidI hkt; clear hem hkt)
      | (go_at_call 24; refine (conA.out _ b7 b8 d7 d8 EM.out KT.out).mono ?_; rintro e wz ⟨z, a3, a4, c3, c4, ze, rfl, hbx, hR, hq1, hq2, hq3⟩; obtain ⟨x0, x1, x2, x3, x4, y0, y1, y2, y3, y4⟩ := hbx.c; have HA := hidI hR; have FIN : Hid (_ ∧ _ ∧ _) := ⟨hq1, hq2, hq3⟩; clear hR hq1 hq2 hq3 hbx))
    all_goals
      go_wp2_with fail
      obtain ⟨z0, z1, z2, z3, z4, -⟩ := FIN.out.2.2.c
      refine bodyPost_ret (v := .tuple #[.agg #[.int .i64 z.kind, .int .i64 z.n, .string ⟨z.s.toArray⟩, .slice a3 z.keys.length c3, .slice a4 z.l.length c4], .int .i64 ze]) ?_ rfl ?_
      · simp only [set5] at z0 z1 z2 z3 z4
        simp [results, Tryd.results30, go_sem, z0, z1, z2, z3, z4]
      · refine ⟨_, by rw [HA.out], FIN.out.1, ?_⟩
        rw [HA.out]
        exact FIN.out.2.1
  · have e1 : (xe != 0) = true := by rw [bne_iff_ne]; exact hxe
    have e2 : (xe == 0) = false := by rw [beq_eq_false_iff_ne]; exact hxe
    have HXE := hidI hxe
    clear hxe
    obtain ⟨p0, p1, p2, p3, p4, -⟩ := (K.out.1).c
    obtain ⟨x0, x1, x2, x3, x4, y0, y1, y2, y3, y4⟩ := (K.out.2.1).c
    have Z : Hid (_ ∧ _) := hidI (set_out (C := ((w1.alloc (.cells #[.int .i64 x.kind, .int .i64 x.n, .string ⟨x.s.toArray⟩, .slice a7 x.keys.length c7, .slice a8 x.l.length c8] 25))).heap.size) (g := w.heap.size + 1) ((H.out.bel K.out.2.2.1).weak (lowN_low (C := ((w1.alloc (.cells #[.int .i64 x.kind, .int .i64 x.n, .string ⟨x.s.toArray⟩, .slice a7 x.keys.length c7, .slice a8 x.l.length c8] 25))).heap.size))) K.out.2.2.1 (by omega) (K.out.2.1).lt)
    have ZB : Hid _ := hidI ((K.out.2.1).set (.int .i64 t.kind) (.int .i64 t.n) (.string ⟨t.s.toArray⟩) (.slice a1 t.keys.length c1) (.slice a2 t.l.length c2))
    have HA : Hid (copiedR t frm dst = (t, xe)) := hidI (by unfold copiedR; rw [HG.out, if_pos HXE.out])
    clear K
    go_wp2_with fail
    obtain ⟨z0, z1, z2, z3, z4, -⟩ := ZB.out.c
    refine bodyPost_ret (v := .tuple #[.agg #[.int .i64 t.kind, .int .i64 t.n, .string ⟨t.s.toArray⟩, .slice a1 t.keys.length c1, .slice a2 t.l.length c2], .int .i64 xe]) ?_ rfl ?_
    · simp only [set5] at z0 z1 z2 z3 z4
      simp [results, Tryd.results30, go_sem, z0, z1, z2, z3, z4]
    · refine ⟨_, by rw [HA.out], Z.out.1, ?_⟩
      rw [HA.out]
      exact Z.out.2
end Go.Proofs.YthaoelchpaofkacDoor
