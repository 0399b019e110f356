/- What patches of package stairwelllaw does. -/
import Derived.Test.YtaifciobaapehaaDoorGYb
/- What copied of package patch does. -/
set_option linter.unusedSimpArgs false
set_option linter.unusedVariables false
namespace Go.Proofs.YtaifciobaapehaaDoor
open Go.RowKit

set_option maxRecDepth 100000 in
set_option maxHeartbeats 40000000 in
theorem copied_is (w : World) (ok : Nat → Prop) (t : V) (v : Value) (frm dst : List UInt8) (h : In w ok t v) (hf : frm.length ≤ 140737488351232) (hd : dst.length ≤ 140737488351232) (hM : GlobM w) :
    Calls Tryd.prog 38 #[v, str frm, str dst] w fun e w' => ∃ r, e = .returned (.tuple #[r, .int .i64 (copiedR t frm dst).2]) ∧ Below w.heap.size w w' ∧ In w' (okN ok w.heap.size) (copiedR t frm dst).1 r := by
  have H := hidI h.low
  have HMM := hidI hM
  obtain ⟨l1, l2, l3⟩ := h.lens
  obtain ⟨a1, a2, c1, c2, rfl⟩ := h.form
  clear h hM
  have B2 : Hid (∀ o1 o2, Below w.heap.size w ((w.alloc o1).alloc o2)) := fun o1 o2 => bel_trans (bel_alloc _ _) (bel_alloc _ _)
  unfold str
  go_enter Tryd.func38, Tryd.ntmps38
  go_wp2_with fail
  refine (get_is _ (fun k => ok k ∧ k < w.heap.size) t _ frm (by exact H.out.bel (B2.out _ _)) hf (by exact HMM.out.bel (B2.out _ _))).mono ?_
  rintro e w1 ⟨r, rfl, hb1, hr⟩
  obtain ⟨g, hg⟩ : ∃ g, getR (splitP frm) t = g := ⟨_, rfl⟩
  rw [hg] at hr ⊢
  obtain ⟨x, xe⟩ := g
  simp only at hr ⊢
  have HG := hidI hg
  obtain ⟨a7, a8, c7, c8, rfl⟩ := hr.form
  have hbb := bel_trans hb1 (bel_alloc w1 (.cells #[.int .i64 x.kind, .int .i64 x.n, .string ⟨x.s.toArray⟩, .slice a7 x.keys.length c7, .slice a8 x.l.length c8] 25))
  have K : Hid (BoxIs (w1.alloc (.cells #[.int .i64 x.kind, .int .i64 x.n, .string ⟨x.s.toArray⟩, .slice a7 x.keys.length c7, .slice a8 x.l.length c8] 25)) w.heap.size (.int .i64 t.kind) (.int .i64 t.n) (.string ⟨t.s.toArray⟩) (.slice a1 t.keys.length c1) (.slice a2 t.l.length c2) ∧ BoxIs (w1.alloc (.cells #[.int .i64 x.kind, .int .i64 x.n, .string ⟨x.s.toArray⟩, .slice a7 x.keys.length c7, .slice a8 x.l.length c8] 25)) (w.heap.size + 1) (.int .i64 0) (.int .i64 0) (.string ⟨#[]⟩) (.slice none 0 0) (.slice none 0 0) ∧ Below w.heap.size w (w1.alloc (.cells #[.int .i64 x.kind, .int .i64 x.n, .string ⟨x.s.toArray⟩, .slice a7 x.keys.length c7, .slice a8 x.l.length c8] 25)) ∧ BoxIs (w1.alloc (.cells #[.int .i64 x.kind, .int .i64 x.n, .string ⟨x.s.toArray⟩, .slice a7 x.keys.length c7, .slice a8 x.l.length c8] 25)) w1.heap.size (.int .i64 x.kind) (.int .i64 x.n) (.string ⟨x.s.toArray⟩) (.slice a7 x.keys.length c7) (.slice a8 x.l.length c8) ∧ In (w1.alloc (.cells #[.int .i64 x.kind, .int .i64 x.n, .string ⟨x.s.toArray⟩, .slice a7 x.keys.length c7, .slice a8 x.l.length c8] 25)) (fun k => ok k ∧ k < w.heap.size) x (.agg #[.int .i64 x.kind, .int .i64 x.n, .string ⟨x.s.toArray⟩, .slice a7 x.keys.length c7, .slice a8 x.l.length c8])) := ⟨box_bel hbb (h2a w _ _), box_bel hbb (h2b w _ _), bel_trans (B2.out _ _) hbb, heap_alloc_new w1 _, hr.bel (bel_alloc _ _)⟩
  clear hr hb1 hbb hg
  by_cases hxe : xe = 0
  · subst hxe
    have hnice : Hid (Nice x) := hidI (by obtain ⟨q1, q2, q3⟩ := get_good HG.out; exact nice_get _ _ _ (nice_of q1) q3)
    have hszA := K.out.2.1.lt
    have conT : Hid (∀ W, W.heap = (w1.alloc (.cells #[.int .i64 x.kind, .int .i64 x.n, .string ⟨x.s.toArray⟩, .slice a7 x.keys.length c7, .slice a8 x.l.length c8] 25)).heap → W.os = (w1.alloc (.cells #[.int .i64 x.kind, .int .i64 x.n, .string ⟨x.s.toArray⟩, .slice a7 x.keys.length c7, .slice a8 x.l.length c8] 25)).os → W.tape = (w1.alloc (.cells #[.int .i64 x.kind, .int .i64 x.n, .string ⟨x.s.toArray⟩, .slice a7 x.keys.length c7, .slice a8 x.l.length c8] 25)).tape → W.output = (w1.alloc (.cells #[.int .i64 x.kind, .int .i64 x.n, .string ⟨x.s.toArray⟩, .slice a7 x.keys.length c7, .slice a8 x.l.length c8] 25)).output → Calls Tryd.prog 61 #[.agg #[.int .i64 x.kind, .int .i64 x.n, .string ⟨x.s.toArray⟩, .slice a7 x.keys.length c7, .slice a8 x.l.length c8]] W fun e w' => ∃ b7 b8 d7 d8, e = .returned (.agg #[.int .i64 x.kind, .int .i64 x.n, .string ⟨x.s.toArray⟩, .slice b7 x.keys.length d7, .slice b8 x.l.length d8]) ∧ (In w' (fun k => (w1.alloc (.cells #[.int .i64 x.kind, .int .i64 x.n, .string ⟨x.s.toArray⟩, .slice a7 x.keys.length c7, .slice a8 x.l.length c8] 25)).heap.size ≤ k) x (.agg #[.int .i64 x.kind, .int .i64 x.n, .string ⟨x.s.toArray⟩, .slice b7 x.keys.length d7, .slice b8 x.l.length d8])) ∧ BoxIs w' w.heap.size (.int .i64 t.kind) (.int .i64 t.n) (.string ⟨t.s.toArray⟩) (.slice a1 t.keys.length c1) (.slice a2 t.l.length c2) ∧ BoxIs w' (w.heap.size + 1) (.int .i64 0) (.int .i64 0) (.string ⟨#[]⟩) (.slice none 0 0) (.slice none 0 0) ∧ Below w.heap.size w w') := by
      intro W e1 e2 e3 e4
      have hbW := bel_of0 e1 e2 e3 e4
      have hsz : W.heap.size = (w1.alloc (.cells #[.int .i64 x.kind, .int .i64 x.n, .string ⟨x.s.toArray⟩, .slice a7 x.keys.length c7, .slice a8 x.l.length c8] 25)).heap.size := by rw [e1]
      refine (twin_is W _ x _ (K.out.2.2.2.2.bel hbW) hnice.out).mono ?_
      rintro e w' ⟨r, rfl, hb, hr⟩
      obtain ⟨b7, b8, d7, d8, rfl⟩ := hr.form
      rw [hsz] at hr
      have hb' := bel_trans hbW hb
      exact ⟨b7, b8, d7, d8, rfl, hr, box_bel hb' K.out.1, box_bel hb' K.out.2.1, bel_trans K.out.2.2.1 hb'⟩
    have conA : Hid (∀ W b7 b8 d7 d8, In W (fun k => (w1.alloc (.cells #[.int .i64 x.kind, .int .i64 x.n, .string ⟨x.s.toArray⟩, .slice a7 x.keys.length c7, .slice a8 x.l.length c8] 25)).heap.size ≤ k) x (.agg #[.int .i64 x.kind, .int .i64 x.n, .string ⟨x.s.toArray⟩, .slice b7 x.keys.length d7, .slice b8 x.l.length d8]) → (BoxIs W w.heap.size (.int .i64 t.kind) (.int .i64 t.n) (.string ⟨t.s.toArray⟩) (.slice a1 t.keys.length c1) (.slice a2 t.l.length c2) ∧ BoxIs W (w.heap.size + 1) (.int .i64 0) (.int .i64 0) (.string ⟨#[]⟩) (.slice none 0 0) (.slice none 0 0) ∧ Below w.heap.size w W) → Calls Tryd.prog 10 #[.agg #[.int .i64 t.kind, .int .i64 t.n, .string ⟨t.s.toArray⟩, .slice a1 t.keys.length c1, .slice a2 t.l.length c2], .string ⟨dst.toArray⟩, .agg #[.int .i64 x.kind, .int .i64 x.n, .string ⟨x.s.toArray⟩, .slice b7 x.keys.length d7, .slice b8 x.l.length d8]] W fun e w' => ∃ (z : V) (a3 a4 : Option Addr) (c3 c4 : Nat) (ze : Int), e = .returned (.tuple #[.agg #[.int .i64 z.kind, .int .i64 z.n, .string ⟨z.s.toArray⟩, .slice a3 z.keys.length c3, .slice a4 z.l.length c4], .int .i64 ze]) ∧ BoxIs w' (w.heap.size + 1) (.int .i64 0) (.int .i64 0) (.string ⟨#[]⟩) (.slice none 0 0) (.slice none 0 0) ∧
        (copiedR t frm dst = (z, ze)) ∧ Below w.heap.size w (set5 w' (w.heap.size + 1) (.int .i64 z.kind) (.int .i64 z.n) (.string ⟨z.s.toArray⟩) (.slice a3 z.keys.length c3) (.slice a4 z.l.length c4)) ∧ In (set5 w' (w.heap.size + 1) (.int .i64 z.kind) (.int .i64 z.n) (.string ⟨z.s.toArray⟩) (.slice a3 z.keys.length c3) (.slice a4 z.l.length c4)) (okN ok w.heap.size) z (.agg #[.int .i64 z.kind, .int .i64 z.n, .string ⟨z.s.toArray⟩, .slice a3 z.keys.length c3, .slice a4 z.l.length c4]) ∧ BoxIs (set5 w' (w.heap.size + 1) (.int .i64 z.kind) (.int .i64 z.n) (.string ⟨z.s.toArray⟩) (.slice a3 z.keys.length c3) (.slice a4 z.l.length c4)) (w.heap.size + 1) (.int .i64 z.kind) (.int .i64 z.n) (.string ⟨z.s.toArray⟩) (.slice a3 z.keys.length c3) (.slice a4 z.l.length c4)) := by
      intro W b7 b8 d7 d8 he hW
      refine (add_is W (lowN ok w.heap.size (w1.alloc (.cells #[.int .i64 x.kind, .int .i64 x.n, .string ⟨x.s.toArray⟩, .slice a7 x.keys.length c7, .slice a8 x.l.length c8] 25)).heap.size) t x _ _ dst ((H.out.bel hW.2.2).weak lowN_low) (he.weak fun k hk => .inr hk) hd (HMM.out.bel hW.2.2)).mono ?_
      rintro e w' ⟨r, rfl, hb, hr⟩
      obtain ⟨g, hg⟩ : ∃ g, layR addedV dst (splitP dst) t x = g := ⟨_, rfl⟩
      rw [hg] at hr ⊢
      obtain ⟨z, ze⟩ := g
      simp only at hr ⊢
      obtain ⟨a3, a4, c3, c4, rfl⟩ := hr.form
      have hbx := box_bel hb hW.2.1
      have hszW := hW.2.1.lt
      have hgs := set5_gb w' (w.heap.size + 1) (.int .i64 z.kind) (.int .i64 z.n) (.string ⟨z.s.toArray⟩) (.slice a3 z.keys.length c3) (.slice a4 z.l.length c4)
      refine ⟨z, a3, a4, c3, c4, ze, rfl, hbx, by unfold copiedR; rw [HG.out]; simp only [ne_eq, not_true_eq_false, if_false]; exact hg, bel_set5 (bel_trans hW.2.2 hb) (Nat.le_succ _) _ _ _ _ _, ?_, hbx.set _ _ _ _ _⟩
      refine (hr.grown hgs ?_).weak ?_
      · intro k hk e
        rcases hk with hk | hk
        · exact lowN_ne (by omega) hszA k hk e
        · omega
      · intro k hk
        rcases hk with hk | hk
        · exact lowN_out (by omega) k hk
        · exact .inr (by omega)
    obtain ⟨p0, p1, p2, p3, p4, -⟩ := K.out.1.c
    obtain ⟨q0, q1, q2, q3, q4, -⟩ := K.out.2.2.2.1.c
    go_upto_region 4 with fail
    go_region_with (first
      | (go_at_call 61; refine (conT.out _ (by rfl) (by rfl) (by rfl) (by rfl)).mono ?_; rintro e wt ⟨b7, b8, d7, d8, rfl, hem, hkt⟩; clear p0 p1 p2 p3 p4; obtain ⟨p0, p1, p2, p3, p4, -⟩ := hkt.1.c; have EM := hidI hem; have KT := hidI hkt; clear hem hkt)
      | (go_at_call 10; refine (conA.out _ b7 b8 d7 d8 EM.out KT.out).mono ?_; rintro e wz ⟨z, a3, a4, c3, c4, ze, rfl, hbx, hR, hq1, hq2, hq3⟩; obtain ⟨x0, x1, x2, x3, x4, y0, y1, y2, y3, y4⟩ := hbx.c; have HA := hidI hR; have FIN : Hid (_ ∧ _ ∧ _) := ⟨hq1, hq2, hq3⟩; clear hR hq1 hq2 hq3 hbx))
    all_goals
      go_wp2_with fail
      obtain ⟨z0, z1, z2, z3, z4, -⟩ := FIN.out.2.2.c
      refine bodyPost_ret (v := .tuple #[.agg #[.int .i64 z.kind, .int .i64 z.n, .string ⟨z.s.toArray⟩, .slice a3 z.keys.length c3, .slice a4 z.l.length c4], .int .i64 ze]) ?_ rfl ?_
      · simp only [set5] at z0 z1 z2 z3 z4
        simp [results, Tryd.results38, go_sem, z0, z1, z2, z3, z4]
      · refine ⟨_, by rw [HA.out], FIN.out.1, ?_⟩
        rw [HA.out]
        exact FIN.out.2.1
  · have e1 : (xe != 0) = true := by rw [bne_iff_ne]; exact hxe
    have e2 : (xe == 0) = false := by rw [beq_eq_false_iff_ne]; exact hxe
    have HXE := hidI hxe
    clear hxe
    obtain ⟨p0, p1, p2, p3, p4, -⟩ := (K.out.1).c
    obtain ⟨x0, x1, x2, x3, x4, y0, y1, y2, y3, y4⟩ := (K.out.2.1).c
    have Z : Hid (_ ∧ _) := hidI (set_out (C := ((w1.alloc (.cells #[.int .i64 x.kind, .int .i64 x.n, .string ⟨x.s.toArray⟩, .slice a7 x.keys.length c7, .slice a8 x.l.length c8] 25))).heap.size) (g := w.heap.size + 1) ((H.out.bel K.out.2.2.1).weak (lowN_low (C := ((w1.alloc (.cells #[.int .i64 x.kind, .int .i64 x.n, .string ⟨x.s.toArray⟩, .slice a7 x.keys.length c7, .slice a8 x.l.length c8] 25))).heap.size))) K.out.2.2.1 (by omega) (K.out.2.1).lt)
    have ZB : Hid _ := hidI ((K.out.2.1).set (.int .i64 t.kind) (.int .i64 t.n) (.string ⟨t.s.toArray⟩) (.slice a1 t.keys.length c1) (.slice a2 t.l.length c2))
    have HA : Hid (copiedR t frm dst = (t, xe)) := hidI (by unfold copiedR; rw [HG.out, if_pos HXE.out])
    clear K
    go_wp2_with fail
    obtain ⟨z0, z1, z2, z3, z4, -⟩ := ZB.out.c
    refine bodyPost_ret (v := .tuple #[.agg #[.int .i64 t.kind, .int .i64 t.n, .string ⟨t.s.toArray⟩, .slice a1 t.keys.length c1, .slice a2 t.l.length c2], .int .i64 xe]) ?_ rfl ?_
    · simp only [set5] at z0 z1 z2 z3 z4
      simp [results, Tryd.results38, go_sem, z0, z1, z2, z3, z4]
    · refine ⟨_, by rw [HA.out], Z.out.1, ?_⟩
      rw [HA.out]
      exact Z.out.2
end Go.Proofs.YtaifciobaapehaaDoor

/- What One of package patch does, but for Test. -/
set_option linter.unusedSimpArgs false
set_option linter.unusedVariables false
namespace Go.Proofs.YtaifciobaapehaaDoor
open Go.RowKit

/- What is said of One, of an operation and a value. -/
def OneAt (f : V × Int) (o : OpT) (t : V) : Prop := ∀ (W : World) (ok : Nat → Prop) (v ov : Value), In W ok t v → OpIn W ok o ov → GlobM W →
    Calls Tryd.prog 21 #[v, ov] W fun e w' => ∃ r, e = .returned (.tuple #[r, .int .i64 f.2]) ∧ Below W.heap.size W w' ∧ In w' (okN ok W.heap.size) f.1 r

set_option maxRecDepth 100000 in
set_option maxHeartbeats 40000000 in
theorem one_add (o : OpT) (t : V) (hk : o.kind = 1) : OneAt (layR addedV o.path (splitP o.path) t o.value) o t := by
  intro w ok v ov h ho hM
  have H := hidI h.low
  have HMM := hidI hM
  obtain ⟨l1, l2, l3⟩ := h.lens
  obtain ⟨a1, a2, c1, c2, rfl⟩ := h.form
  obtain ⟨o1, o2, o3, a7, a8, c7, c8, rfl, hx⟩ := ho
  have HX := hidI hx.low
  have q1 : (o.kind == 1) = true := by rw [hk]; rfl
  clear h hM hx hk
  have B3 : Hid (∀ o1 o2 o3, Below w.heap.size w (((w.alloc o1).alloc o2).alloc o3)) := fun o1 o2 o3 => bel_trans (bel_trans (bel_alloc _ _) (bel_alloc _ _)) (bel_alloc _ _)
  go_enter Tryd.func21, Tryd.ntmps21
  go_wp2_with fail
  refine (add_is _ (fun k => ok k ∧ k < w.heap.size) t o.value _ _ o.path (by exact H.out.bel (B3.out _ _ _)) (by exact HX.out.bel (B3.out _ _ _)) o2 (by exact HMM.out.bel (B3.out _ _ _))).mono ?_
  rintro e w9 ⟨r, rfl, hb9, hr⟩
  obtain ⟨y, hy⟩ : ∃ y, layR addedV o.path (splitP o.path) t o.value = y := ⟨_, rfl⟩
  rw [hy] at hr ⊢
  obtain ⟨y, ye⟩ := y
  simp only at hr ⊢
  obtain ⟨a5, a6, c5, c6, rfl⟩ := hr.form
  have hbx := box_bel hb9 (h3c w _ _ _)
  obtain ⟨x0, x1, x2, x3, x4, y0, y1, y2, y3, y4⟩ := BoxIs.c hbx
  have Z : Hid (_ ∧ _) := hidI (set_out (g := w.heap.size + 2) hr (bel_trans (B3.out _ _ _) hb9) (by omega) (by simp))
  have ZB : Hid _ := hidI (BoxIs.set hbx (.int .i64 y.kind) (.int .i64 y.n) (.string ⟨y.s.toArray⟩) (.slice a5 y.keys.length c5) (.slice a6 y.l.length c6))
  have HA := hidI hy
  clear hy hr hb9 hbx
  go_wp2_with fail
  obtain ⟨z0, z1, z2, z3, z4, -⟩ := ZB.out.c
  refine bodyPost_ret (v := .tuple #[.agg #[.int .i64 y.kind, .int .i64 y.n, .string ⟨y.s.toArray⟩, .slice a5 y.keys.length c5, .slice a6 y.l.length c6], .int .i64 ye]) ?_ rfl ?_
  · simp only [set5] at z0 z1 z2 z3 z4
    simp [results, Tryd.results21, go_sem, z0, z1, z2, z3, z4]
  · exact ⟨_, by rw [HA.out], Z.out.1, by rw [HA.out]; exact Z.out.2⟩

set_option maxRecDepth 100000 in
set_option maxHeartbeats 40000000 in
theorem one_remove (o : OpT) (t : V) (hk : o.kind = 2) : OneAt (changeR removedV (splitP o.path) t) o t := by
  intro w ok v ov h ho hM
  have H := hidI h.low
  have HMM := hidI hM
  obtain ⟨l1, l2, l3⟩ := h.lens
  obtain ⟨a1, a2, c1, c2, rfl⟩ := h.form
  obtain ⟨o1, o2, o3, a7, a8, c7, c8, rfl, hx⟩ := ho
  have HX := hidI hx.low
  have q1 : (o.kind == 1) = false := by rw [hk]; rfl
  have q2 : (o.kind == 2) = true := by rw [hk]; rfl
  clear h hM hx hk
  have B3 : Hid (∀ o1 o2 o3, Below w.heap.size w (((w.alloc o1).alloc o2).alloc o3)) := fun o1 o2 o3 => bel_trans (bel_trans (bel_alloc _ _) (bel_alloc _ _)) (bel_alloc _ _)
  go_enter Tryd.func21, Tryd.ntmps21
  go_wp2_with fail
  refine (remove_is _ (fun k => ok k ∧ k < w.heap.size) t _ o.path (by exact H.out.bel (B3.out _ _ _)) o2 (by exact HMM.out.bel (B3.out _ _ _))).mono ?_
  rintro e w9 ⟨r, rfl, hb9, hr⟩
  obtain ⟨y, hy⟩ : ∃ y, changeR removedV (splitP o.path) t = y := ⟨_, rfl⟩
  rw [hy] at hr ⊢
  obtain ⟨y, ye⟩ := y
  simp only at hr ⊢
  obtain ⟨a5, a6, c5, c6, rfl⟩ := hr.form
  have hbx := box_bel hb9 (h3c w _ _ _)
  obtain ⟨x0, x1, x2, x3, x4, y0, y1, y2, y3, y4⟩ := BoxIs.c hbx
  have Z : Hid (_ ∧ _) := hidI (set_out (g := w.heap.size + 2) hr (bel_trans (B3.out _ _ _) hb9) (by omega) (by simp))
  have ZB : Hid _ := hidI (BoxIs.set hbx (.int .i64 y.kind) (.int .i64 y.n) (.string ⟨y.s.toArray⟩) (.slice a5 y.keys.length c5) (.slice a6 y.l.length c6))
  have HA := hidI hy
  clear hy hr hb9 hbx
  go_wp2_with fail
  obtain ⟨z0, z1, z2, z3, z4, -⟩ := ZB.out.c
  refine bodyPost_ret (v := .tuple #[.agg #[.int .i64 y.kind, .int .i64 y.n, .string ⟨y.s.toArray⟩, .slice a5 y.keys.length c5, .slice a6 y.l.length c6], .int .i64 ye]) ?_ rfl ?_
  · simp only [set5] at z0 z1 z2 z3 z4
    simp [results, Tryd.results21, go_sem, z0, z1, z2, z3, z4]
  · exact ⟨_, by rw [HA.out], Z.out.1, by rw [HA.out]; exact Z.out.2⟩

set_option maxRecDepth 100000 in
set_option maxHeartbeats 40000000 in
theorem one_replace (o : OpT) (t : V) (hk : o.kind = 3) : OneAt (layR replacedV o.path (splitP o.path) t o.value) o t := by
  intro w ok v ov h ho hM
  have H := hidI h.low
  have HMM := hidI hM
  obtain ⟨l1, l2, l3⟩ := h.lens
  obtain ⟨a1, a2, c1, c2, rfl⟩ := h.form
  obtain ⟨o1, o2, o3, a7, a8, c7, c8, rfl, hx⟩ := ho
  have HX := hidI hx.low
  have q1 : (o.kind == 1) = false := by rw [hk]; rfl
  have q2 : (o.kind == 2) = false := by rw [hk]; rfl
  have q3 : (o.kind == 3) = true := by rw [hk]; rfl
  clear h hM hx hk
  have B3 : Hid (∀ o1 o2 o3, Below w.heap.size w (((w.alloc o1).alloc o2).alloc o3)) := fun o1 o2 o3 => bel_trans (bel_trans (bel_alloc _ _) (bel_alloc _ _)) (bel_alloc _ _)
  go_enter Tryd.func21, Tryd.ntmps21
  go_wp2_with fail
  refine (put_is _ (fun k => ok k ∧ k < w.heap.size) t o.value _ _ o.path (by exact H.out.bel (B3.out _ _ _)) (by exact HX.out.bel (B3.out _ _ _)) o2 (by exact HMM.out.bel (B3.out _ _ _))).mono ?_
  rintro e w9 ⟨r, rfl, hb9, hr⟩
  obtain ⟨y, hy⟩ : ∃ y, layR replacedV o.path (splitP o.path) t o.value = y := ⟨_, rfl⟩
  rw [hy] at hr ⊢
  obtain ⟨y, ye⟩ := y
  simp only at hr ⊢
  obtain ⟨a5, a6, c5, c6, rfl⟩ := hr.form
  have hbx := box_bel hb9 (h3c w _ _ _)
  obtain ⟨x0, x1, x2, x3, x4, y0, y1, y2, y3, y4⟩ := BoxIs.c hbx
  have Z : Hid (_ ∧ _) := hidI (set_out (g := w.heap.size + 2) hr (bel_trans (B3.out _ _ _) hb9) (by omega) (by simp))
  have ZB : Hid _ := hidI (BoxIs.set hbx (.int .i64 y.kind) (.int .i64 y.n) (.string ⟨y.s.toArray⟩) (.slice a5 y.keys.length c5) (.slice a6 y.l.length c6))
  have HA := hidI hy
  clear hy hr hb9 hbx
  go_wp2_with fail
  obtain ⟨z0, z1, z2, z3, z4, -⟩ := ZB.out.c
  refine bodyPost_ret (v := .tuple #[.agg #[.int .i64 y.kind, .int .i64 y.n, .string ⟨y.s.toArray⟩, .slice a5 y.keys.length c5, .slice a6 y.l.length c6], .int .i64 ye]) ?_ rfl ?_
  · simp only [set5] at z0 z1 z2 z3 z4
    simp [results, Tryd.results21, go_sem, z0, z1, z2, z3, z4]
  · exact ⟨_, by rw [HA.out], Z.out.1, by rw [HA.out]; exact Z.out.2⟩

set_option maxRecDepth 100000 in
set_option maxHeartbeats 40000000 in
theorem one_move (o : OpT) (t : V) (hk : o.kind = 4) : OneAt (movedR t o.frm o.path) o t := by
  intro w ok v ov h ho hM
  have H := hidI h.low
  have HMM := hidI hM
  obtain ⟨l1, l2, l3⟩ := h.lens
  obtain ⟨a1, a2, c1, c2, rfl⟩ := h.form
  obtain ⟨o1, o2, o3, a7, a8, c7, c8, rfl, hx⟩ := ho
  have HX := hidI hx.low
  have q1 : (o.kind == 1) = false := by rw [hk]; rfl
  have q2 : (o.kind == 2) = false := by rw [hk]; rfl
  have q3 : (o.kind == 3) = false := by rw [hk]; rfl
  have q4 : (o.kind == 4) = true := by rw [hk]; rfl
  clear h hM hx hk
  have B3 : Hid (∀ o1 o2 o3, Below w.heap.size w (((w.alloc o1).alloc o2).alloc o3)) := fun o1 o2 o3 => bel_trans (bel_trans (bel_alloc _ _) (bel_alloc _ _)) (bel_alloc _ _)
  go_enter Tryd.func21, Tryd.ntmps21
  go_wp2_with fail
  refine (moved_is _ (fun k => ok k ∧ k < w.heap.size) t _ o.frm o.path (by exact H.out.bel (B3.out _ _ _)) o3 o2 (by exact HMM.out.bel (B3.out _ _ _))).mono ?_
  rintro e w9 ⟨r, rfl, hb9, hr⟩
  obtain ⟨y, hy⟩ : ∃ y, movedR t o.frm o.path = y := ⟨_, rfl⟩
  rw [hy] at hr ⊢
  obtain ⟨y, ye⟩ := y
  simp only at hr ⊢
  obtain ⟨a5, a6, c5, c6, rfl⟩ := hr.form
  have hbx := box_bel hb9 (h3c w _ _ _)
  obtain ⟨x0, x1, x2, x3, x4, y0, y1, y2, y3, y4⟩ := BoxIs.c hbx
  have Z : Hid (_ ∧ _) := hidI (set_out (g := w.heap.size + 2) hr (bel_trans (B3.out _ _ _) hb9) (by omega) (by simp))
  have ZB : Hid _ := hidI (BoxIs.set hbx (.int .i64 y.kind) (.int .i64 y.n) (.string ⟨y.s.toArray⟩) (.slice a5 y.keys.length c5) (.slice a6 y.l.length c6))
  have HA := hidI hy
  clear hy hr hb9 hbx
  go_wp2_with fail
  obtain ⟨z0, z1, z2, z3, z4, -⟩ := ZB.out.c
  refine bodyPost_ret (v := .tuple #[.agg #[.int .i64 y.kind, .int .i64 y.n, .string ⟨y.s.toArray⟩, .slice a5 y.keys.length c5, .slice a6 y.l.length c6], .int .i64 ye]) ?_ rfl ?_
  · simp only [set5] at z0 z1 z2 z3 z4
    simp [results, Tryd.results21, go_sem, z0, z1, z2, z3, z4]
  · exact ⟨_, by rw [HA.out], Z.out.1, by rw [HA.out]; exact Z.out.2⟩

set_option maxRecDepth 100000 in
set_option maxHeartbeats 40000000 in
theorem one_copy (o : OpT) (t : V) (hk : o.kind = 5) : OneAt (copiedR t o.frm o.path) o t := by
  intro w ok v ov h ho hM
  have H := hidI h.low
  have HMM := hidI hM
  obtain ⟨l1, l2, l3⟩ := h.lens
  obtain ⟨a1, a2, c1, c2, rfl⟩ := h.form
  obtain ⟨o1, o2, o3, a7, a8, c7, c8, rfl, hx⟩ := ho
  have HX := hidI hx.low
  have q1 : (o.kind == 1) = false := by rw [hk]; rfl
  have q2 : (o.kind == 2) = false := by rw [hk]; rfl
  have q3 : (o.kind == 3) = false := by rw [hk]; rfl
  have q4 : (o.kind == 4) = false := by rw [hk]; rfl
  have q5 : (o.kind == 5) = true := by rw [hk]; rfl
  clear h hM hx hk
  have B3 : Hid (∀ o1 o2 o3, Below w.heap.size w (((w.alloc o1).alloc o2).alloc o3)) := fun o1 o2 o3 => bel_trans (bel_trans (bel_alloc _ _) (bel_alloc _ _)) (bel_alloc _ _)
  go_enter Tryd.func21, Tryd.ntmps21
  go_wp2_with fail
  refine (copied_is _ (fun k => ok k ∧ k < w.heap.size) t _ o.frm o.path (by exact H.out.bel (B3.out _ _ _)) o3 o2 (by exact HMM.out.bel (B3.out _ _ _))).mono ?_
  rintro e w9 ⟨r, rfl, hb9, hr⟩
  obtain ⟨y, hy⟩ : ∃ y, copiedR t o.frm o.path = y := ⟨_, rfl⟩
  rw [hy] at hr ⊢
  obtain ⟨y, ye⟩ := y
  simp only at hr ⊢
  obtain ⟨a5, a6, c5, c6, rfl⟩ := hr.form
  have hbx := box_bel hb9 (h3c w _ _ _)
  obtain ⟨x0, x1, x2, x3, x4, y0, y1, y2, y3, y4⟩ := BoxIs.c hbx
  have Z : Hid (_ ∧ _) := hidI (set_out (g := w.heap.size + 2) hr (bel_trans (B3.out _ _ _) hb9) (by omega) (by simp))
  have ZB : Hid _ := hidI (BoxIs.set hbx (.int .i64 y.kind) (.int .i64 y.n) (.string ⟨y.s.toArray⟩) (.slice a5 y.keys.length c5) (.slice a6 y.l.length c6))
  have HA := hidI hy
  clear hy hr hb9 hbx
  go_wp2_with fail
  obtain ⟨z0, z1, z2, z3, z4, -⟩ := ZB.out.c
  refine bodyPost_ret (v := .tuple #[.agg #[.int .i64 y.kind, .int .i64 y.n, .string ⟨y.s.toArray⟩, .slice a5 y.keys.length c5, .slice a6 y.l.length c6], .int .i64 ye]) ?_ rfl ?_
  · simp only [set5] at z0 z1 z2 z3 z4
    simp [results, Tryd.results21, go_sem, z0, z1, z2, z3, z4]
  · exact ⟨_, by rw [HA.out], Z.out.1, by rw [HA.out]; exact Z.out.2⟩

set_option maxRecDepth 100000 in
set_option maxHeartbeats 40000000 in
theorem one_other (o : OpT) (t : V) (hk : ∀ i : Int, 1 ≤ i → i ≤ 6 → o.kind ≠ i) : OneAt (t, 9) o t := by
  intro w ok v ov h ho hM
  have H := hidI h.low
  obtain ⟨l1, l2, l3⟩ := h.lens
  obtain ⟨a1, a2, c1, c2, rfl⟩ := h.form
  obtain ⟨o1, o2, o3, a7, a8, c7, c8, rfl, hx⟩ := ho
  have q : ∀ i : Int, 1 ≤ i → i ≤ 6 → (o.kind == i) = false := fun i h1 h2 => by rw [beq_eq_false_iff_ne]; exact hk i h1 h2
  have q1 := q 1 (by omega) (by omega)
  have q2 := q 2 (by omega) (by omega)
  have q3 := q 3 (by omega) (by omega)
  have q4 := q 4 (by omega) (by omega)
  have q5 := q 5 (by omega) (by omega)
  have q6 := q 6 (by omega) (by omega)
  have HB : Hid (Below w.heap.size w (((w.alloc (.cells #[.int .i64 t.kind, .int .i64 t.n, .string ⟨t.s.toArray⟩, .slice a1 t.keys.length c1, .slice a2 t.l.length c2] 25)).alloc (.cells #[.int .i64 o.kind, .string ⟨o.path.toArray⟩, .string ⟨o.frm.toArray⟩, .int .i64 o.value.kind, .int .i64 o.value.n, .string ⟨o.value.s.toArray⟩, .slice a7 o.value.keys.length c7, .slice a8 o.value.l.length c8] 43)).alloc (.cells #[.int .i64 t.kind, .int .i64 t.n, .string ⟨t.s.toArray⟩, .slice a1 t.keys.length c1, .slice a2 t.l.length c2] 25))) := bel_trans (bel_trans (bel_alloc _ _) (bel_alloc _ _)) (bel_alloc _ _)
  have K := hidI ((H.out.bel HB.out).weak (low_out))
  clear h hM hx hk q
  go_enter Tryd.func21, Tryd.ntmps21
  go_wp2_with fail
  refine bodyPost_ret (v := .tuple #[.agg #[.int .i64 t.kind, .int .i64 t.n, .string ⟨t.s.toArray⟩, .slice a1 t.keys.length c1, .slice a2 t.l.length c2], .int .i64 9]) ?_ rfl ?_
  · simp [results, Tryd.results21, go_sem]
  · exact ⟨_, rfl, HB.out, K.out⟩
end Go.Proofs.YtaifciobaapehaaDoor

/- What All of package patch does. -/
set_option linter.unusedSimpArgs false
set_option linter.unusedVariables false
namespace Go.Proofs.YtaifciobaapehaaDoor
open Go.RowKit

/- One by one, till one cannot be done. -/
def runR (f : V → OpT → V × Int) : List OpT → V → V × Int
  | [], t => (t, 0)
  | o :: os, t => if (f t o).2 ≠ 0 then (t, (f t o).2) else runR f os (f t o).1
def allR (f : V → OpT → V × Int) (os : List OpT) (t : V) : V × Int :=
  if 20 < os.length then (t, 2) else if (runR f os t).2 ≠ 0 then (t, (runR f os t).2) else ((runR f os t).1, 0)
/- One does each as is said, where it comes to it. -/
def AllOk (f : V → OpT → V × Int) : List OpT → V → Prop
  | [], _ => True
  | o :: os, t => OneAt (f t o) o t ∧ ((f t o).2 = 0 → AllOk f os (f t o).1)
/- On the way. -/
def AllI (w : World) (ok : Nat → Prop) (f : V → OpT → V × Int) (os : List OpT) (t : V) (a1 a2 : Option Addr) (c1 c2 k : Nat) (wr : World) : Prop :=
  ∃ (y : V) (a5 a6 : Option Addr) (c5 c6 : Nat), runR f os t = runR f (os.drop k) y ∧ AllOk f (os.drop k) y ∧ BoxIs wr w.heap.size (.int .i64 t.kind) (.int .i64 t.n) (.string ⟨t.s.toArray⟩) (.slice a1 t.keys.length c1) (.slice a2 t.l.length c2) ∧ BoxIs wr (w.heap.size + 1) (.int .i64 0) (.int .i64 0) (.string ⟨#[]⟩) (.slice none 0 0) (.slice none 0 0) ∧ BoxIs wr (w.heap.size + 2) (.int .i64 y.kind) (.int .i64 y.n) (.string ⟨y.s.toArray⟩) (.slice a5 y.keys.length c5) (.slice a6 y.l.length c6) ∧ Below w.heap.size w wr ∧ In wr (lowN ok w.heap.size (w.heap.size + 3)) y (.agg #[.int .i64 y.kind, .int .i64 y.n, .string ⟨y.s.toArray⟩, .slice a5 y.keys.length c5, .slice a6 y.l.length c6])
theorem OpsAre.item {w : World} {ok : Nat → Prop} {os : List OpT} {a : Option Addr} {m c k : Nat} (h : OpsAre w ok os (.slice a m c)) (hk : k < os.length) : ∃ (b off : Nat) (a7 a8 : Option Addr) (c7 c8 : Nat), a = some ⟨b, off, none⟩ ∧ os.length ≤ c ∧ c ≤ 9223372036854775807 ∧
    w.cell? ⟨b, off + k * 8, none⟩ = some (.int .i64 os[k].kind) ∧ w.cell? ⟨b, off + k * 8 + 1, none⟩ = some (.string ⟨os[k].path.toArray⟩) ∧ w.cell? ⟨b, off + k * 8 + 2, none⟩ = some (.string ⟨os[k].frm.toArray⟩) ∧ w.cell? ⟨b, off + k * 8 + 3, none⟩ = some (.int .i64 os[k].value.kind) ∧
    w.cell? ⟨b, off + k * 8 + 4, none⟩ = some (.int .i64 os[k].value.n) ∧ w.cell? ⟨b, off + k * 8 + 5, none⟩ = some (.string ⟨os[k].value.s.toArray⟩) ∧ w.cell? ⟨b, off + k * 8 + 6, none⟩ = some (.slice a7 os[k].value.keys.length c7) ∧ w.cell? ⟨b, off + k * 8 + 7, none⟩ = some (.slice a8 os[k].value.l.length c8) ∧ OpIn w ok os[k] (.agg #[.int .i64 os[k].kind, .string ⟨os[k].path.toArray⟩, .string ⟨os[k].frm.toArray⟩, .int .i64 os[k].value.kind, .int .i64 os[k].value.n, .string ⟨os[k].value.s.toArray⟩, .slice a7 os[k].value.keys.length c7, .slice a8 os[k].value.l.length c8]) := by
  rcases h.2 with ⟨e, _⟩ | ⟨b, off, c', e, h1, h2, hcs⟩
  · rw [e] at hk; simp at hk
  · simp only [Value.slice.injEq] at e
    obtain ⟨rfl, -, rfl⟩ := e
    obtain ⟨v0, v1, v2, v3, v4, v5, v6, v7, -, g0, g1, g2, g3, g4, g5, g6, g7, g8⟩ := hcs k os[k] (List.getElem?_eq_getElem hk)
    have g9 := g8
    obtain ⟨o1, o2, o3, a7, a8, c7, c8, e, -⟩ := g8
    simp only [Value.agg.injEq, Array.mk.injEq, List.cons.injEq, and_true] at e
    obtain ⟨rfl, rfl, rfl, rfl, rfl, rfl, rfl, rfl⟩ := e
    exact ⟨b, off, a7, a8, c7, c8, rfl, h1, h2, g0, g1, g2, g3, g4, g5, g6, g7, g9⟩

set_option maxRecDepth 100000 in
set_option maxHeartbeats 40000000 in
theorem all_is (f : V → OpT → V × Int) (w : World) (ok : Nat → Prop) (t : V) (os : List OpT) (v ov : Value) (h : In w ok t v) (ho : OpsAre w ok os ov) (hM : GlobM w) (hok : os.length ≤ 20 → AllOk f os t) :
    Calls Tryd.prog 19 #[v, ov] w fun e w' => ∃ r, e = .returned (.tuple #[r, .int .i64 (allR f os t).2]) ∧ Below w.heap.size w w' ∧ In w' (okN ok w.heap.size) (allR f os t).1 r := by
  have H := hidI h.low
  have HMM := hidI hM
  have HOS := hidI ho
  have olen := ho.1
  obtain ⟨l1, l2, l3⟩ := h.lens
  obtain ⟨a1, a2, c1, c2, rfl⟩ := h.form
  obtain ⟨oa, oc, rfl⟩ := ho.form
  clear h hM ho
  by_cases h20 : 20 < os.length
  · have e0 : (20 : Int) < (os.length : Int) := by omega
    have HA : Hid (allR f os t = (t, 2)) := hidI (by unfold allR; rw [if_pos h20])
    have HB : Hid (Below w.heap.size w ((w.alloc (.cells #[.int .i64 t.kind, .int .i64 t.n, .string ⟨t.s.toArray⟩, .slice a1 t.keys.length c1, .slice a2 t.l.length c2] 25)).alloc (.cells #[.int .i64 t.kind, .int .i64 t.n, .string ⟨t.s.toArray⟩, .slice a1 t.keys.length c1, .slice a2 t.l.length c2] 25))) := bel_trans (bel_alloc _ _) (bel_alloc _ _)
    have K := hidI ((H.out.bel HB.out).weak (low_out))
    clear h20 hok
    go_enter Tryd.func19, Tryd.ntmps19
    go_wp2_with fail
    refine bodyPost_ret (v := .tuple #[.agg #[.int .i64 t.kind, .int .i64 t.n, .string ⟨t.s.toArray⟩, .slice a1 t.keys.length c1, .slice a2 t.l.length c2], .int .i64 2]) ?_ rfl ?_
    · simp [results, Tryd.results19, go_sem]
    · refine ⟨_, by rw [HA.out], HB.out, ?_⟩
      rw [HA.out]
      exact K.out
  · have e0 : ¬ ((20 : Int) < (os.length : Int)) := by omega
    have HR : Hid (allR f os t = if (runR f os t).2 ≠ 0 then (t, (runR f os t).2) else ((runR f os t).1, 0)) := hidI (by unfold allR; rw [if_neg h20])
    have B3 : Hid (∀ o1 o2 o3, Below w.heap.size w (((w.alloc o1).alloc o2).alloc o3)) := fun o1 o2 o3 => bel_trans (bel_trans (bel_alloc _ _) (bel_alloc _ _)) (bel_alloc _ _)
    have S0 : Hid (∀ W : World, W = ((w.alloc (.cells #[.int .i64 t.kind, .int .i64 t.n, .string ⟨t.s.toArray⟩, .slice a1 t.keys.length c1, .slice a2 t.l.length c2] 25)).alloc (.cells #[.int .i64 0, .int .i64 0, .string ⟨#[]⟩, .slice none 0 0, .slice none 0 0] 25)).alloc (.cells #[.int .i64 t.kind, .int .i64 t.n, .string ⟨t.s.toArray⟩, .slice a1 t.keys.length c1, .slice a2 t.l.length c2] 25) → AllI w ok f os t a1 a2 c1 c2 0 W) := by
      rintro W rfl
      exact ⟨t, a1, a2, c1, c2, rfl, hok (by omega), h3a w _ _ _, h3b w _ _ _, h3c w _ _ _, B3.out _ _ _, (H.out.bel (B3.out _ _ _)).weak lowN_low⟩
    clear hok h20
    go_enter Tryd.func19, Tryd.ntmps19
    go_wp2_with fail
    go_loopg [18] os.length (fun gk i wr => ∃ k : Nat, k ≤ os.length ∧ gk = os.length - k ∧ i = .int .i64 k ∧ AllI w ok f os t a1 a2 c1 c2 k wr)
    case atStart => exact ⟨0, Nat.zero_le _, rfl, rfl, S0.out _ rfl⟩
    case round =>
      obtain ⟨k, hk, hgk, rfl, y, a5, a6, c5, c6, i1, i2, i3, i4, i5, i6, i7⟩ := hrel
      have GK := hidI hgk
      have I : Hid (runR f os t = runR f (os.drop k) y ∧ AllOk f (os.drop k) y ∧ BoxIs wr w.heap.size (.int .i64 t.kind) (.int .i64 t.n) (.string ⟨t.s.toArray⟩) (.slice a1 t.keys.length c1) (.slice a2 t.l.length c2) ∧ BoxIs wr (w.heap.size + 1) (.int .i64 0) (.int .i64 0) (.string ⟨#[]⟩) (.slice none 0 0) (.slice none 0 0) ∧ BoxIs wr (w.heap.size + 2) (.int .i64 y.kind) (.int .i64 y.n) (.string ⟨y.s.toArray⟩) (.slice a5 y.keys.length c5) (.slice a6 y.l.length c6) ∧ Below w.heap.size w wr ∧ In wr (lowN ok w.heap.size (w.heap.size + 3)) y (.agg #[.int .i64 y.kind, .int .i64 y.n, .string ⟨y.s.toArray⟩, .slice a5 y.keys.length c5, .slice a6 y.l.length c6])) := ⟨i1, i2, i3, i4, i5, i6, i7⟩
      have hwsz := i5.lt
      clear hgk i1 i2 i3 i4 i5 i6 i7
      by_cases hlt : k < os.length
      · obtain ⟨b, off, a7, a8, c7, c8, rfl, hc1, hc2, g0, g1, g2, g3, g4, g5, g6, g7, g8⟩ := HOS.out.item hlt
        have OK := hidI (g8.low)
        replace g0 := cell_bel I.out.2.2.2.2.2.1 g0
        replace g1 := cell_bel I.out.2.2.2.2.2.1 g1
        replace g2 := cell_bel I.out.2.2.2.2.2.1 g2
        replace g3 := cell_bel I.out.2.2.2.2.2.1 g3
        replace g4 := cell_bel I.out.2.2.2.2.2.1 g4
        replace g5 := cell_bel I.out.2.2.2.2.2.1 g5
        replace g6 := cell_bel I.out.2.2.2.2.2.1 g6
        replace g7 := cell_bel I.out.2.2.2.2.2.1 g7
        have RS : Hid (runR f (os.drop k) y = if (f y os[k]).2 ≠ 0 then (y, (f y os[k]).2) else runR f (os.drop (k + 1)) (f y os[k]).1) := hidI (by rw [List.drop_eq_getElem_cons hlt, runR])
        have AO : Hid (OneAt (f y os[k]) os[k] y ∧ ((f y os[k]).2 = 0 → AllOk f (os.drop (k + 1)) (f y os[k]).1)) := hidI (by have := I.out.2.1; rw [List.drop_eq_getElem_cons hlt, AllOk] at this; exact this)
        have hb8 := bel_alloc wr (.cells #[.int .i64 os[k].kind, .string ⟨os[k].path.toArray⟩, .string ⟨os[k].frm.toArray⟩, .int .i64 os[k].value.kind, .int .i64 os[k].value.n, .string ⟨os[k].value.s.toArray⟩, .slice a7 os[k].value.keys.length c7, .slice a8 os[k].value.l.length c8] 43)
        obtain ⟨p0, p1, p2, p3, p4, -⟩ := (box_bel hb8 I.out.2.2.2.2.1).c
        clear g8
        go_wp2_with fail
        refine (AO.out.1 _ (lowN ok w.heap.size (w.heap.size + 3)) _ _ (by exact I.out.2.2.2.2.2.2.bel (bel_alloc _ _)) (by exact (OK.out.bel (bel_trans I.out.2.2.2.2.2.1 (bel_alloc _ _))).weak lowN_low) (by exact HMM.out.bel (bel_trans I.out.2.2.2.2.2.1 (bel_alloc _ _)))).mono ?_
        rintro e w2 ⟨r, rfl, hb2, hr⟩
        obtain ⟨q, hq⟩ : ∃ q, f y os[k] = q := ⟨_, rfl⟩
        rw [hq] at hr AO RS ⊢
        obtain ⟨z, ze⟩ := q
        simp only at hr AO RS ⊢
        obtain ⟨a3, a4, c3, c4, rfl⟩ := hr.form
        have hbb := bel_trans (bel_trans hb8 hb2) (bel_alloc w2 (.cells #[.int .i64 z.kind, .int .i64 z.n, .string ⟨z.s.toArray⟩, .slice a3 z.keys.length c3, .slice a4 z.l.length c4] 25))
        have hr' : In (w2.alloc (.cells #[.int .i64 z.kind, .int .i64 z.n, .string ⟨z.s.toArray⟩, .slice a3 z.keys.length c3, .slice a4 z.l.length c4] 25)) (lowN ok w.heap.size (w.heap.size + 3)) z (.agg #[.int .i64 z.kind, .int .i64 z.n, .string ⟨z.s.toArray⟩, .slice a3 z.keys.length c3, .slice a4 z.l.length c4]) := (hr.bel (bel_alloc _ _)).weak (fun j hj => by
          rcases hj with hj | hj
          · exact hj
          · have := hb8.size; exact .inr (by omega))
        have K : Hid (BoxIs (w2.alloc (.cells #[.int .i64 z.kind, .int .i64 z.n, .string ⟨z.s.toArray⟩, .slice a3 z.keys.length c3, .slice a4 z.l.length c4] 25)) w.heap.size (.int .i64 t.kind) (.int .i64 t.n) (.string ⟨t.s.toArray⟩) (.slice a1 t.keys.length c1) (.slice a2 t.l.length c2) ∧ BoxIs (w2.alloc (.cells #[.int .i64 z.kind, .int .i64 z.n, .string ⟨z.s.toArray⟩, .slice a3 z.keys.length c3, .slice a4 z.l.length c4] 25)) (w.heap.size + 1) (.int .i64 0) (.int .i64 0) (.string ⟨#[]⟩) (.slice none 0 0) (.slice none 0 0) ∧ BoxIs (w2.alloc (.cells #[.int .i64 z.kind, .int .i64 z.n, .string ⟨z.s.toArray⟩, .slice a3 z.keys.length c3, .slice a4 z.l.length c4] 25)) (w.heap.size + 2) (.int .i64 y.kind) (.int .i64 y.n) (.string ⟨y.s.toArray⟩) (.slice a5 y.keys.length c5) (.slice a6 y.l.length c6) ∧ Below w.heap.size w (w2.alloc (.cells #[.int .i64 z.kind, .int .i64 z.n, .string ⟨z.s.toArray⟩, .slice a3 z.keys.length c3, .slice a4 z.l.length c4] 25)) ∧ In (w2.alloc (.cells #[.int .i64 z.kind, .int .i64 z.n, .string ⟨z.s.toArray⟩, .slice a3 z.keys.length c3, .slice a4 z.l.length c4] 25)) (lowN ok w.heap.size (w.heap.size + 3)) z (.agg #[.int .i64 z.kind, .int .i64 z.n, .string ⟨z.s.toArray⟩, .slice a3 z.keys.length c3, .slice a4 z.l.length c4]) ∧ BoxIs (w2.alloc (.cells #[.int .i64 z.kind, .int .i64 z.n, .string ⟨z.s.toArray⟩, .slice a3 z.keys.length c3, .slice a4 z.l.length c4] 25)) w2.heap.size (.int .i64 z.kind) (.int .i64 z.n) (.string ⟨z.s.toArray⟩) (.slice a3 z.keys.length c3) (.slice a4 z.l.length c4)) := ⟨box_bel hbb I.out.2.2.1, box_bel hbb I.out.2.2.2.1, box_bel hbb I.out.2.2.2.2.1, bel_trans I.out.2.2.2.2.2.1 hbb, hr', heap_alloc_new w2 _⟩
        clear hq hr hr' hb2 hbb hb8 p0 p1 p2 p3 p4 g0 g1 g2 g3 g4 g5 g6 g7
        by_cases hze : ze = 0
        · subst hze
          have FIN : Hid (AllI w ok f os t a1 a2 c1 c2 (k + 1) (set5 (w2.alloc (.cells #[.int .i64 z.kind, .int .i64 z.n, .string ⟨z.s.toArray⟩, .slice a3 z.keys.length c3, .slice a4 z.l.length c4] 25)) (w.heap.size + 2) (.int .i64 z.kind) (.int .i64 z.n) (.string ⟨z.s.toArray⟩) (.slice a3 z.keys.length c3) (.slice a4 z.l.length c4))) := by
            have g1 := set5_gb (w2.alloc (.cells #[.int .i64 z.kind, .int .i64 z.n, .string ⟨z.s.toArray⟩, .slice a3 z.keys.length c3, .slice a4 z.l.length c4] 25)) (w.heap.size + 2) (.int .i64 z.kind) (.int .i64 z.n) (.string ⟨z.s.toArray⟩) (.slice a3 z.keys.length c3) (.slice a4 z.l.length c4)
            refine ⟨z, a3, a4, c3, c4, ?_, AO.out.2 rfl, K.out.1.grown g1 (by simp), K.out.2.1.grown g1 (by simp), K.out.2.2.1.set _ _ _ _ _, bel_set5 K.out.2.2.2.1 (by omega) _ _ _ _ _, K.out.2.2.2.2.1.box (by omega) (by omega) _ _ _ _ _⟩
            rw [I.out.1, RS.out]; simp
          obtain ⟨p0, p1, p2, p3, p4, p5, p6, p7, p8, p9⟩ := K.out.2.2.1.c
          obtain ⟨q0, q1, q2, q3, q4, -⟩ := K.out.2.2.2.2.2.c
          clear K
          go_wp2_with fail
          go_roundg (os.length - (k + 1))
          case measure => rw [GK.out]; omega
          case rel => exact ⟨k + 1, hlt, rfl, by go_num, FIN.out⟩
        · have e1 : (ze != 0) = true := by rw [bne_iff_ne]; exact hze
          have e2 : (ze == 0) = false := by rw [beq_eq_false_iff_ne]; exact hze
          have HZE := hidI hze
          clear hze
          obtain ⟨p0, p1, p2, p3, p4, -⟩ := (K.out.1).c
          obtain ⟨x0, x1, x2, x3, x4, y0, y1, y2, y3, y4⟩ := (K.out.2.1).c
          have Z : Hid (_ ∧ _) := hidI (set_out (C := ((w2.alloc (.cells #[.int .i64 z.kind, .int .i64 z.n, .string ⟨z.s.toArray⟩, .slice a3 z.keys.length c3, .slice a4 z.l.length c4] 25))).heap.size) (g := w.heap.size + 1) ((H.out.bel K.out.2.2.2.1).weak (lowN_low (C := ((w2.alloc (.cells #[.int .i64 z.kind, .int .i64 z.n, .string ⟨z.s.toArray⟩, .slice a3 z.keys.length c3, .slice a4 z.l.length c4] 25))).heap.size))) K.out.2.2.2.1 (by omega) (K.out.2.1).lt)
          have ZB : Hid _ := hidI ((K.out.2.1).set (.int .i64 t.kind) (.int .i64 t.n) (.string ⟨t.s.toArray⟩) (.slice a1 t.keys.length c1) (.slice a2 t.l.length c2))
          have HA : Hid (allR f os t = (t, ze)) := hidI (by rw [HR.out, I.out.1, RS.out, if_pos HZE.out]; simp only; rw [if_pos HZE.out])
          clear K
          go_wp2_with fail
          obtain ⟨z0, z1, z2, z3, z4, -⟩ := ZB.out.c
          refine bodyPost_ret (v := .tuple #[.agg #[.int .i64 t.kind, .int .i64 t.n, .string ⟨t.s.toArray⟩, .slice a1 t.keys.length c1, .slice a2 t.l.length c2], .int .i64 ze]) ?_ rfl ?_
          · simp only [set5] at z0 z1 z2 z3 z4
            simp [results, Tryd.results19, go_sem, z0, z1, z2, z3, z4]
          · refine ⟨_, by rw [HA.out], Z.out.1, ?_⟩
            rw [HA.out]
            exact Z.out.2
      · have hke : k = os.length := by omega
        subst hke
        have HA : Hid (allR f os t = (y, 0)) := hidI (by rw [HR.out, I.out.1, List.drop_length]; simp [runR])
        obtain ⟨p0, p1, p2, p3, p4, -⟩ := I.out.2.2.2.2.1.c
        obtain ⟨x0, x1, x2, x3, x4, y0, y1, y2, y3, y4⟩ := I.out.2.2.2.1.c
        have Z : Hid (_ ∧ _) := hidI (set_out (g := w.heap.size + 1) I.out.2.2.2.2.2.2 I.out.2.2.2.2.2.1 (by omega) (by omega))
        have ZB : Hid _ := hidI (I.out.2.2.2.1.set (.int .i64 y.kind) (.int .i64 y.n) (.string ⟨y.s.toArray⟩) (.slice a5 y.keys.length c5) (.slice a6 y.l.length c6))
        go_wp2_with fail
        obtain ⟨z0, z1, z2, z3, z4, -⟩ := ZB.out.c
        refine bodyPost_ret (v := .tuple #[.agg #[.int .i64 y.kind, .int .i64 y.n, .string ⟨y.s.toArray⟩, .slice a5 y.keys.length c5, .slice a6 y.l.length c6], .int .i64 0]) ?_ rfl ?_
        · simp only [set5] at z0 z1 z2 z3 z4
          simp [results, Tryd.results19, go_sem, z0, z1, z2, z3, z4]
        · refine ⟨_, by rw [HA.out], Z.out.1, ?_⟩
          rw [HA.out]
          exact Z.out.2
end Go.Proofs.YtaifciobaapehaaDoor

/- Two operations on an empty list, plainly. -/
set_option linter.unusedSimpArgs false
set_option linter.unusedVariables false
namespace Go.Proofs.YtaifciobaapehaaDoor
open Go.RowKit

def paO1 : OpT := ⟨1, [47, 45], [], ⟨1, 0, [], [], []⟩⟩
def paO2 : OpT := ⟨5, [47, 48], [47, 48], ⟨0, 0, [], [], []⟩⟩
def paT : V := ⟨4, 0, [], [], []⟩
def paT1 : V := ⟨4, 0, [], [], [⟨1, 0, [], [], []⟩]⟩
def paT2 : V := ⟨4, 0, [], [], [⟨1, 0, [], [], []⟩, ⟨1, 0, [], [], []⟩]⟩
def paF (t : V) (o : OpT) : V × Int := if o.kind = 1 then layR addedV o.path (splitP o.path) t o.value else copiedR t o.frm o.path
theorem pa_split1 : splitP [47, 45] = ([[45]], 0) := by
  have e : joinP [[45]] = [47, 45] := by unfold joinP; rw [List.flatMap_cons, marked_eq]; rfl
  have := split_join [[45]] (by rw [e]; decide)
  rwa [e] at this
theorem pa_split2 : splitP [47, 48] = ([[48]], 0) := by
  have e : joinP [[48]] = [47, 48] := by unfold joinP; rw [List.flatMap_cons, marked_eq]; rfl
  have := split_join [[48]] (by rw [e]; decide)
  rwa [e] at this
theorem pa_step1 : paF paT paO1 = (paT1, 0) := by
  show layR addedV [47, 45] (splitP [47, 45]) paT ⟨1, 0, [], [], []⟩ = _
  rw [pa_split1]
  kernel_rfl
theorem pa_get : getR (splitP paO2.frm) paT1 = (⟨1, 0, [], [], []⟩, 0) := by
  show getR (splitP [47, 48]) paT1 = _
  rw [pa_split2]
  kernel_rfl
theorem pa_step2 : paF paT1 paO2 = (paT2, 0) := by
  show copiedR paT1 paO2.frm [47, 48] = _
  unfold copiedR
  rw [pa_get]
  show layR addedV [47, 48] (splitP [47, 48]) paT1 ⟨1, 0, [], [], []⟩ = _
  rw [pa_split2]
  kernel_rfl
theorem pa_all : allR paF [paO1, paO2] paT = (paT2, 0) := by
  unfold allR
  have e : runR paF [paO1, paO2] paT = (paT2, 0) := by simp [runR, pa_step1, pa_step2]
  rw [if_neg (by simp), e]
  simp
theorem pa_ok : AllOk paF [paO1, paO2] paT := by
  refine ⟨one_add paO1 paT rfl, fun _ => ?_⟩
  rw [pa_step1]
  refine ⟨?_, fun _ => trivial⟩
  exact one_copy paO2 paT1 rfl
theorem pa_i64 (n : Int) (h1 : 0 ≤ n) (h2 : n ≤ 100) : I64 n := by unfold I64; omega
theorem cell_block {w : World} {b : Nat} {cs : Array Value} {t : TypeId} (h : w.heap[b]? = some (.cells cs t)) (i : Nat) : w.cell? ⟨b, i, none⟩ = cs[i]? := by
  simp [World.cell?, h]
theorem pa_ops (w : World) (o : Obj) (ho : o = .cells #[.int .i64 1, .string ⟨#[47, 45]⟩, .string ⟨#[]⟩, .int .i64 1, .int .i64 0, .string ⟨#[]⟩, .slice none 0 0, .slice none 0 0, .int .i64 5, .string ⟨#[47, 48]⟩, .string ⟨#[47, 48]⟩, .int .i64 0, .int .i64 0, .string ⟨#[]⟩, .slice none 0 0, .slice none 0 0] 43) :
    OpsAre (w.alloc o) (fun _ => True) [paO1, paO2] (.slice (some ⟨w.heap.size, 0, none⟩) 2 2) := by
  have hb := heap_alloc_new w o
  have c : ∀ i, (w.alloc o).cell? ⟨w.heap.size, i, none⟩ = (#[Value.int .i64 1, .string ⟨#[47, 45]⟩, .string ⟨#[]⟩, .int .i64 1, .int .i64 0, .string ⟨#[]⟩, .slice none 0 0, .slice none 0 0, .int .i64 5, .string ⟨#[47, 48]⟩, .string ⟨#[47, 48]⟩, .int .i64 0, .int .i64 0, .string ⟨#[]⟩, .slice none 0 0, .slice none 0 0] : Array Value)[i]? := by
    intro i
    rw [ho] at hb ⊢
    exact cell_block hb i
  refine ⟨by simp, .inr ⟨w.heap.size, 0, 2, rfl, by simp, by simp, fun i o' h => ?_⟩⟩
  match i, h with
  | 0, h =>
    simp only [List.getElem?_cons_zero, Option.some.injEq] at h
    subst h
    exact ⟨_, _, _, _, _, _, _, _, trivial, (c 0).trans rfl, (c 1).trans rfl, (c 2).trans rfl, (c 3).trans rfl, (c 4).trans rfl, (c 5).trans rfl, (c 6).trans rfl, (c 7).trans rfl, pa_i64 1 (by omega) (by omega), by decide, by decide, none, none, 0, 0, rfl, in_leaf _ _ 1 0 (pa_i64 _ (by omega) (by omega)) (pa_i64 _ (by omega) (by omega))⟩
  | 1, h =>
    simp only [List.getElem?_cons_succ, List.getElem?_cons_zero, Option.some.injEq] at h
    subst h
    exact ⟨_, _, _, _, _, _, _, _, trivial, (c 8).trans rfl, (c 9).trans rfl, (c 10).trans rfl, (c 11).trans rfl, (c 12).trans rfl, (c 13).trans rfl, (c 14).trans rfl, (c 15).trans rfl, pa_i64 5 (by omega) (by omega), by decide, by decide, none, none, 0, 0, rfl, in_leaf _ _ 0 0 (pa_i64 _ (by omega) (by omega)) (pa_i64 _ (by omega) (by omega))⟩

end Go.Proofs.YtaifciobaapehaaDoor

set_option linter.unusedSimpArgs false
set_option linter.unusedVariables false
namespace Go.Proofs.YtaifciobaapehaaDoor
open Go.RowKit

set_option maxRecDepth 100000 in
set_option maxHeartbeats 4000000 in
theorem lpatches_at (w : World) (hM : GlobM w) : Calls Tryd.prog 18 #[] w fun e w' => e = .returned (.bool true) ∧ Below w.heap.size w w' := by
  have HMM := hidI hM
  clear hM
  go_enter Tryd.func18, Tryd.ntmps18
  go_wp2_with fail
  refine (all_is paF _ (fun _ => True) paT [paO1, paO2] _ _ (by exact in_leaf _ _ 4 0 (pa_i64 _ (by omega) (by omega)) (pa_i64 _ (by omega) (by omega))) (by exact pa_ops w _ rfl) (by exact HMM.out.bel (bel_alloc _ _)) (fun _ => pa_ok)).mono ?_
  rintro e w1 ⟨r, rfl, hb1, hr⟩
  rw [pa_all] at hr ⊢
  simp only at hr ⊢
  obtain ⟨T, hT, hl⟩ : ∃ T, T = paT2 ∧ T.l.length = 2 := ⟨_, rfl, rfl⟩
  rw [← hT] at hr
  clear hT
  obtain ⟨a5, a6, c5, c6, rfl⟩ := hr.form
  have q2 : ((T.l.length : Int) == 2) = true := by rw [hl]; rfl
  have HB := hidI (bel_trans (bel_alloc w _) (bel_trans hb1 (bel_alloc w1 (.cells #[.int .i64 T.kind, .int .i64 T.n, .string ⟨T.s.toArray⟩, .slice a5 T.keys.length c5, .slice a6 T.l.length c6] 25))))
  obtain ⟨-, l2, -⟩ := hr.lens
  clear hb1 hr hl
  go_wp2_with fail
  go_ret
  exact ⟨rfl, HB.out⟩
end Go.Proofs.YtaifciobaapehaaDoor
