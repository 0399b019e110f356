/- What copied of package patch does with a value without items. -/
import Derived.Test.YtcpkmpaemnlkmacDoorYd
set_option linter.unusedSimpArgs false
set_option linter.unusedVariables false
namespace Go.Proofs.YtcpkmpaemnlkmacDoor
open Go.RowKit

set_option maxRecDepth 100000 in
set_option maxHeartbeats 40000000 in
theorem copied_leaf (w : World) (ok : Nat → Prop) (t : V) (v : Value) (frm dst : List UInt8) (k n : Int) (s : List UInt8) (xe : Int) (hx : getR (splitP frm) t = (⟨k, n, s, [], []⟩, xe)) (h : In w ok t v) (hf : frm.length ≤ 140737488351232) (hd : dst.length ≤ 140737488351232) (hM : GlobM w) :
    Calls Tryd.prog 30 #[v, str frm, str dst] w fun e w' => ∃ r, e = .returned (.tuple #[r, .int .i64 (copiedR t frm dst).2]) ∧ Below w.heap.size w w' ∧ In w' (okN ok w.heap.size) (copiedR t frm dst).1 r := by
  have H := hidI h.low
  have HMM := hidI hM
  have HG := hidI hx
  obtain ⟨l1, l2, l3⟩ := h.lens
  obtain ⟨a1, a2, c1, c2, rfl⟩ := h.form
  clear h hM hx
  have B2 : Hid (∀ o1 o2, Below w.heap.size w ((w.alloc o1).alloc o2)) := fun o1 o2 => bel_trans (bel_alloc _ _) (bel_alloc _ _)
  unfold str
  go_enter Tryd.func30, Tryd.ntmps30
  go_wp2_with fail
  refine (get_is _ (fun k => ok k ∧ k < w.heap.size) t _ frm (by exact H.out.bel (B2.out _ _)) hf (by exact HMM.out.bel (B2.out _ _))).mono ?_
  rintro e w1 ⟨r, rfl, hb1, hr⟩
  rw [HG.out] at hr ⊢
  simp only at hr ⊢
  obtain ⟨b, c, b', c', rfl, m1, m2, m3, m4, m5⟩ := hr.leaf
  have LF : Hid (Emp b c ∧ Emp b' c' ∧ I64 k ∧ I64 n ∧ s.length ≤ 9223372036854775807) := ⟨m1, m2, m3, m4, m5⟩
  have hbb := bel_trans hb1 (bel_alloc w1 (.cells #[.int .i64 k, .int .i64 n, .string ⟨s.toArray⟩, .slice b 0 c, .slice b' 0 c'] 25))
  have K : Hid (BoxIs (w1.alloc (.cells #[.int .i64 k, .int .i64 n, .string ⟨s.toArray⟩, .slice b 0 c, .slice b' 0 c'] 25)) w.heap.size (.int .i64 t.kind) (.int .i64 t.n) (.string ⟨t.s.toArray⟩) (.slice a1 t.keys.length c1) (.slice a2 t.l.length c2) ∧ BoxIs (w1.alloc (.cells #[.int .i64 k, .int .i64 n, .string ⟨s.toArray⟩, .slice b 0 c, .slice b' 0 c'] 25)) (w.heap.size + 1) (.int .i64 0) (.int .i64 0) (.string ⟨#[]⟩) (.slice none 0 0) (.slice none 0 0) ∧ Below w.heap.size w (w1.alloc (.cells #[.int .i64 k, .int .i64 n, .string ⟨s.toArray⟩, .slice b 0 c, .slice b' 0 c'] 25)) ∧ BoxIs (w1.alloc (.cells #[.int .i64 k, .int .i64 n, .string ⟨s.toArray⟩, .slice b 0 c, .slice b' 0 c'] 25)) w1.heap.size (.int .i64 k) (.int .i64 n) (.string ⟨s.toArray⟩) (.slice b 0 c) (.slice b' 0 c')) := ⟨box_bel hbb (h2a w _ _), box_bel hbb (h2b w _ _), bel_trans (B2.out _ _) hbb, heap_alloc_new w1 _⟩
  clear hr hb1 hbb m1 m2 m3 m4
  by_cases hxe : xe = 0
  · subst hxe
    have conT : Hid (∀ W, W.heap = (w1.alloc (.cells #[.int .i64 k, .int .i64 n, .string ⟨s.toArray⟩, .slice b 0 c, .slice b' 0 c'] 25)).heap → W.os = (w1.alloc (.cells #[.int .i64 k, .int .i64 n, .string ⟨s.toArray⟩, .slice b 0 c, .slice b' 0 c'] 25)).os → W.tape = (w1.alloc (.cells #[.int .i64 k, .int .i64 n, .string ⟨s.toArray⟩, .slice b 0 c, .slice b' 0 c'] 25)).tape → W.output = (w1.alloc (.cells #[.int .i64 k, .int .i64 n, .string ⟨s.toArray⟩, .slice b 0 c, .slice b' 0 c'] 25)).output → Calls Tryd.prog 49 #[.agg #[.int .i64 k, .int .i64 n, .string ⟨s.toArray⟩, .slice b 0 c, .slice b' 0 c']] W fun e w' => ∃ f d f' d', e = .returned (.agg #[.int .i64 k, .int .i64 n, .string ⟨s.toArray⟩, .slice f 0 d, .slice f' 0 d']) ∧ (Emp f d ∧ Emp f' d') ∧ BoxIs w' w.heap.size (.int .i64 t.kind) (.int .i64 t.n) (.string ⟨t.s.toArray⟩) (.slice a1 t.keys.length c1) (.slice a2 t.l.length c2) ∧ BoxIs w' (w.heap.size + 1) (.int .i64 0) (.int .i64 0) (.string ⟨#[]⟩) (.slice none 0 0) (.slice none 0 0) ∧ Below w.heap.size w w') := by
      intro W e1 e2 e3 e4
      have hbW := bel_of0 e1 e2 e3 e4
      refine (twin_leaf W b b' c c' k n s LF.out.2.2.1 LF.out.2.2.2.1 LF.out.2.2.2.2 LF.out.1 LF.out.2.1).mono ?_
      rintro e w' ⟨f, d, f', d', rfl, he1, he2, hb⟩
      have hb' := bel_trans hbW hb
      exact ⟨f, d, f', d', rfl, ⟨he1, he2⟩, box_bel hb' K.out.1, box_bel hb' K.out.2.1, bel_trans K.out.2.2.1 hb'⟩
    have conA : Hid (∀ W f d f' d', Emp f d ∧ Emp f' d' → (BoxIs W w.heap.size (.int .i64 t.kind) (.int .i64 t.n) (.string ⟨t.s.toArray⟩) (.slice a1 t.keys.length c1) (.slice a2 t.l.length c2) ∧ BoxIs W (w.heap.size + 1) (.int .i64 0) (.int .i64 0) (.string ⟨#[]⟩) (.slice none 0 0) (.slice none 0 0) ∧ Below w.heap.size w W) → Calls Tryd.prog 24 #[.agg #[.int .i64 t.kind, .int .i64 t.n, .string ⟨t.s.toArray⟩, .slice a1 t.keys.length c1, .slice a2 t.l.length c2], .string ⟨dst.toArray⟩, .agg #[.int .i64 k, .int .i64 n, .string ⟨s.toArray⟩, .slice f 0 d, .slice f' 0 d']] W fun e w' => ∃ (z : V) (a3 a4 : Option Addr) (c3 c4 : Nat) (ze : Int), e = .returned (.tuple #[.agg #[.int .i64 z.kind, .int .i64 z.n, .string ⟨z.s.toArray⟩, .slice a3 z.keys.length c3, .slice a4 z.l.length c4], .int .i64 ze]) ∧ BoxIs w' (w.heap.size + 1) (.int .i64 0) (.int .i64 0) (.string ⟨#[]⟩) (.slice none 0 0) (.slice none 0 0) ∧
        (copiedR t frm dst = (z, ze)) ∧ Below w.heap.size w (set5 w' (w.heap.size + 1) (.int .i64 z.kind) (.int .i64 z.n) (.string ⟨z.s.toArray⟩) (.slice a3 z.keys.length c3) (.slice a4 z.l.length c4)) ∧ In (set5 w' (w.heap.size + 1) (.int .i64 z.kind) (.int .i64 z.n) (.string ⟨z.s.toArray⟩) (.slice a3 z.keys.length c3) (.slice a4 z.l.length c4)) (okN ok w.heap.size) z (.agg #[.int .i64 z.kind, .int .i64 z.n, .string ⟨z.s.toArray⟩, .slice a3 z.keys.length c3, .slice a4 z.l.length c4]) ∧ BoxIs (set5 w' (w.heap.size + 1) (.int .i64 z.kind) (.int .i64 z.n) (.string ⟨z.s.toArray⟩) (.slice a3 z.keys.length c3) (.slice a4 z.l.length c4)) (w.heap.size + 1) (.int .i64 z.kind) (.int .i64 z.n) (.string ⟨z.s.toArray⟩) (.slice a3 z.keys.length c3) (.slice a4 z.l.length c4)) := by
      intro W f d f' d' he hW
      refine (add_is W (fun k => ok k ∧ k < w.heap.size) t ⟨k, n, s, [], []⟩ _ _ dst (H.out.bel hW.2.2) (leaf_in he.1 he.2 W _ LF.out.2.2.1 LF.out.2.2.2.1 LF.out.2.2.2.2) hd (HMM.out.bel hW.2.2)).mono ?_
      rintro e w' ⟨r, rfl, hb, hr⟩
      obtain ⟨g, hg⟩ : ∃ g, layR addedV dst (splitP dst) t ⟨k, n, s, [], []⟩ = g := ⟨_, rfl⟩
      rw [hg] at hr ⊢
      obtain ⟨z, ze⟩ := g
      simp only at hr ⊢
      obtain ⟨a3, a4, c3, c4, rfl⟩ := hr.form
      have hbx := box_bel hb hW.2.1
      obtain ⟨q1, q2⟩ := set_out (g := w.heap.size + 1) hr (bel_trans hW.2.2 hb) (by omega) hW.2.1.lt
      exact ⟨z, a3, a4, c3, c4, ze, rfl, hbx, by unfold copiedR; rw [HG.out]; simp only [ne_eq, not_true_eq_false, if_false]; exact hg, q1, q2, hbx.set _ _ _ _ _⟩
    obtain ⟨p0, p1, p2, p3, p4, -⟩ := K.out.1.c
    obtain ⟨q0, q1, q2, q3, q4, -⟩ := K.out.2.2.2.c
    go_upto_region 4 with fail
    go_region_with (first
      | (go_at_call 49; refine (conT.out _ (by rfl) (by rfl) (by rfl) (by rfl)).mono ?_; rintro e wt ⟨f, d, f', d', rfl, hem, hkt⟩; clear p0 p1 p2 p3 p4; obtain ⟨p0, p1, p2, p3, p4, -⟩ := hkt.1.c; have EM := hidI hem; have KT := hidI hkt; clear hem hkt)
      | (go_at_call 24; refine (conA.out _ f d f' d' EM.out KT.out).mono ?_; rintro e wz ⟨z, a3, a4, c3, c4, ze, rfl, hbx, hR, hq1, hq2, hq3⟩; obtain ⟨x0, x1, x2, x3, x4, y0, y1, y2, y3, y4⟩ := hbx.c; have HA := hidI hR; have FIN : Hid (_ ∧ _ ∧ _) := ⟨hq1, hq2, hq3⟩; clear hR hq1 hq2 hq3 hbx))
    all_goals
      go_wp2_with fail
      obtain ⟨z0, z1, z2, z3, z4, -⟩ := FIN.out.2.2.c
      refine bodyPost_ret (v := .tuple #[.agg #[.int .i64 z.kind, .int .i64 z.n, .string ⟨z.s.toArray⟩, .slice a3 z.keys.length c3, .slice a4 z.l.length c4], .int .i64 ze]) ?_ rfl ?_
      · simp only [set5] at z0 z1 z2 z3 z4
        simp [results, Tryd.results30, go_sem, z0, z1, z2, z3, z4]
      · refine ⟨_, by rw [HA.out], FIN.out.1, ?_⟩
        rw [HA.out]
        exact FIN.out.2.1
  · have e1 : (xe != 0) = true := by rw [bne_iff_ne]; exact hxe
    have e2 : (xe == 0) = false := by rw [beq_eq_false_iff_ne]; exact hxe
    have HXE := hidI hxe
    clear hxe
    obtain ⟨p0, p1, p2, p3, p4, -⟩ := (K.out.1).c
    obtain ⟨x0, x1, x2, x3, x4, y0, y1, y2, y3, y4⟩ := (K.out.2.1).c
    have Z : Hid (_ ∧ _) := hidI (set_out (C := ((w1.alloc (.cells #[.int .i64 k, .int .i64 n, .string ⟨s.toArray⟩, .slice b 0 c, .slice b' 0 c'] 25))).heap.size) (g := w.heap.size + 1) ((H.out.bel K.out.2.2.1).weak (lowN_low (C := ((w1.alloc (.cells #[.int .i64 k, .int .i64 n, .string ⟨s.toArray⟩, .slice b 0 c, .slice b' 0 c'] 25))).heap.size))) K.out.2.2.1 (by omega) (K.out.2.1).lt)
    have ZB : Hid _ := hidI ((K.out.2.1).set (.int .i64 t.kind) (.int .i64 t.n) (.string ⟨t.s.toArray⟩) (.slice a1 t.keys.length c1) (.slice a2 t.l.length c2))
    have HA : Hid (copiedR t frm dst = (t, xe)) := hidI (by unfold copiedR; rw [HG.out, if_pos HXE.out])
    clear K
    go_wp2_with fail
    obtain ⟨z0, z1, z2, z3, z4, -⟩ := ZB.out.c
    refine bodyPost_ret (v := .tuple #[.agg #[.int .i64 t.kind, .int .i64 t.n, .string ⟨t.s.toArray⟩, .slice a1 t.keys.length c1, .slice a2 t.l.length c2], .int .i64 xe]) ?_ rfl ?_
    · simp only [set5] at z0 z1 z2 z3 z4
      simp [results, Tryd.results30, go_sem, z0, z1, z2, z3, z4]
    · refine ⟨_, by rw [HA.out], Z.out.1, ?_⟩
      rw [HA.out]
      exact Z.out.2
end Go.Proofs.YtcpkmpaemnlkmacDoor
