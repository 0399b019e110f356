/- What One of package patch does, but for Test. -/
import Derived.Test.YthaoelchpaofkacDoorYu
set_option linter.unusedSimpArgs false
set_option linter.unusedVariables false
namespace Go.Proofs.YthaoelchpaofkacDoor
open Go.RowKit

/- What is said of One, of an operation and a value. -/
def OneAt (f : V × Int) (o : OpT) (t : V) : Prop := ∀ (W : World) (ok : Nat → Prop) (v ov : Value), In W ok t v → OpIn W ok o ov → GlobM W →
    Calls Tryd.prog 16 #[v, ov] W fun e w' => ∃ r, e = .returned (.tuple #[r, .int .i64 f.2]) ∧ Below W.heap.size W w' ∧ In w' (okN ok W.heap.size) f.1 r

set_option maxRecDepth 100000 in
set_option maxHeartbeats 40000000 in
theorem one_add (o : OpT) (t : V) (hk : o.kind = 1) : OneAt (layR addedV o.path (splitP o.path) t o.value) o t := by
  intro w ok v ov h ho hM
  have H := hidI h.low
  have HMM := hidI hM
  obtain ⟨l1, l2, l3⟩ := h.lens
  obtain ⟨a1, a2, c1, c2, rfl⟩ := h.form
  obtain ⟨o1, o2, o3, a7, a8, c7, c8, rfl, hx⟩ := ho
  have HX := hidI hx.low
  have q1 : (o.kind == 1) = true := by rw [hk]; rfl
  clear h hM hx hk
  have B3 : Hid (∀ o1 o2 o3, Below w.heap.size w (((w.alloc o1).alloc o2).alloc o3)) := fun o1 o2 o3 => bel_trans (bel_trans (bel_alloc _ _) (bel_alloc _ _)) (bel_alloc _ _)
  go_enter Tryd.func16, Tryd.ntmps16
  go_wp2_with fail
  refine (add_is _ (fun k => ok k ∧ k < w.heap.size) t o.value _ _ o.path (by exact H.out.bel (B3.out _ _ _)) (by exact HX.out.bel (B3.out _ _ _)) o2 (by exact HMM.out.bel (B3.out _ _ _))).mono ?_
  rintro e w9 ⟨r, rfl, hb9, hr⟩
  obtain ⟨y, hy⟩ : ∃ y, layR addedV o.path (splitP o.path) t o.value = y := ⟨_, rfl⟩
  rw [hy] at hr ⊢
  obtain ⟨y, ye⟩ := y
  simp only at hr ⊢
  obtain ⟨a5, a6, c5, c6, rfl⟩ := hr.form
  have hbx := box_bel hb9 (h3c w _ _ _)
  obtain ⟨x0, x1, x2, x3, x4, y0, y1, y2, y3, y4⟩ := BoxIs.c hbx
  have Z : Hid (_ ∧ _) := hidI (set_out (g := w.heap.size + 2) hr (bel_trans (B3.out _ _ _) hb9) (by omega) (by simp))
  have ZB : Hid _ := hidI (BoxIs.set hbx (.int .i64 y.kind) (.int .i64 y.n) (.string ⟨y.s.toArray⟩) (.slice a5 y.keys.length c5) (.slice a6 y.l.length c6))
  have HA := hidI hy
  clear hy hr hb9 hbx
  go_wp2_with fail
  obtain ⟨z0, z1, z2, z3, z4, -⟩ := ZB.out.c
  refine bodyPost_ret (v := .tuple #[.agg #[.int .i64 y.kind, .int .i64 y.n, .string ⟨y.s.toArray⟩, .slice a5 y.keys.length c5, .slice a6 y.l.length c6], .int .i64 ye]) ?_ rfl ?_
  · simp only [set5] at z0 z1 z2 z3 z4
    simp [results, Tryd.results16, go_sem, z0, z1, z2, z3, z4]
  · exact ⟨_, by rw [HA.out], Z.out.1, by rw [HA.out]; exact Z.out.2⟩

set_option maxRecDepth 100000 in
set_option maxHeartbeats 40000000 in
theorem one_remove (o : OpT) (t : V) (hk : o.kind = 2) : OneAt (changeR removedV (splitP o.path) t) o t := by
  intro w ok v ov h ho hM
  have H := hidI h.low
  have HMM := hidI hM
  obtain ⟨l1, l2, l3⟩ := h.lens
  obtain ⟨a1, a2, c1, c2, rfl⟩ := h.form
  obtain ⟨o1, o2, o3, a7, a8, c7, c8, rfl, hx⟩ := ho
  have HX := hidI hx.low
  have q1 : (o.kind == 1) = false := by rw [hk]; rfl
  have q2 : (o.kind == 2) = true := by rw [hk]; rfl
  clear h hM hx hk
  have B3 : Hid (∀ o1 o2 o3, Below w.heap.size w (((w.alloc o1).alloc o2).alloc o3)) := fun o1 o2 o3 => bel_trans (bel_trans (bel_alloc _ _) (bel_alloc _ _)) (bel_alloc _ _)
  go_enter Tryd.func16, Tryd.ntmps16
  go_wp2_with fail
  refine (remove_is _ (fun k => ok k ∧ k < w.heap.size) t _ o.path (by exact H.out.bel (B3.out _ _ _)) o2 (by exact HMM.out.bel (B3.out _ _ _))).mono ?_
  rintro e w9 ⟨r, rfl, hb9, hr⟩
  obtain ⟨y, hy⟩ : ∃ y, changeR removedV (splitP o.path) t = y := ⟨_, rfl⟩
  rw [hy] at hr ⊢
  obtain ⟨y, ye⟩ := y
  simp only at hr ⊢
  obtain ⟨a5, a6, c5, c6, rfl⟩ := hr.form
  have hbx := box_bel hb9 (h3c w _ _ _)
  obtain ⟨x0, x1, x2, x3, x4, y0, y1, y2, y3, y4⟩ := BoxIs.c hbx
  have Z : Hid (_ ∧ _) := hidI (set_out (g := w.heap.size + 2) hr (bel_trans (B3.out _ _ _) hb9) (by omega) (by simp))
  have ZB : Hid _ := hidI (BoxIs.set hbx (.int .i64 y.kind) (.int .i64 y.n) (.string ⟨y.s.toArray⟩) (.slice a5 y.keys.length c5) (.slice a6 y.l.length c6))
  have HA := hidI hy
  clear hy hr hb9 hbx
  go_wp2_with fail
  obtain ⟨z0, z1, z2, z3, z4, -⟩ := ZB.out.c
  refine bodyPost_ret (v := .tuple #[.agg #[.int .i64 y.kind, .int .i64 y.n, .string ⟨y.s.toArray⟩, .slice a5 y.keys.length c5, .slice a6 y.l.length c6], .int .i64 ye]) ?_ rfl ?_
  · simp only [set5] at z0 z1 z2 z3 z4
    simp [results, Tryd.results16, go_sem, z0, z1, z2, z3, z4]
  · exact ⟨_, by rw [HA.out], Z.out.1, by rw [HA.out]; exact Z.out.2⟩

set_option maxRecDepth 100000 in
set_option maxHeartbeats 40000000 in
theorem one_replace (o : OpT) (t : V) (hk : o.kind = 3) : OneAt (layR replacedV o.path (splitP o.path) t o.value) o t := by
  intro w ok v ov h ho hM
  have H := hidI h.low
  have HMM := hidI hM
  obtain ⟨l1, l2, l3⟩ := h.lens
  obtain ⟨a1, a2, c1, c2, rfl⟩ := h.form
  obtain ⟨o1, o2, o3, a7, a8, c7, c8, rfl, hx⟩ := ho
  have HX := hidI hx.low
  have q1 : (o.kind == 1) = false := by rw [hk]; rfl
  have q2 : (o.kind == 2) = false := by rw [hk]; rfl
  have q3 : (o.kind == 3) = true := by rw [hk]; rfl
  clear h hM hx hk
  have B3 : Hid (∀ o1 o2 o3, Below w.heap.size w (((w.alloc o1).alloc o2).alloc o3)) := fun o1 o2 o3 => bel_trans (bel_trans (bel_alloc _ _) (bel_alloc _ _)) (bel_alloc _ _)
  go_enter Tryd.func16, Tryd.ntmps16
  go_wp2_with fail
  refine (put_is _ (fun k => ok k ∧ k < w.heap.size) t o.value _ _ o.path (by exact H.out.bel (B3.out _ _ _)) (by exact HX.out.bel (B3.out _ _ _)) o2 (by exact HMM.out.bel (B3.out _ _ _))).mono ?_
  rintro e w9 ⟨r, rfl, hb9, hr⟩
  obtain ⟨y, hy⟩ : ∃ y, layR replacedV o.path (splitP o.path) t o.value = y := ⟨_, rfl⟩
  rw [hy] at hr ⊢
  obtain ⟨y, ye⟩ := y
  simp only at hr ⊢
  obtain ⟨a5, a6, c5, c6, rfl⟩ := hr.form
  have hbx := box_bel hb9 (h3c w _ _ _)
  obtain ⟨x0, x1, x2, x3, x4, y0, y1, y2, y3, y4⟩ := BoxIs.c hbx
  have Z : Hid (_ ∧ _) := hidI (set_out (g := w.heap.size + 2) hr (bel_trans (B3.out _ _ _) hb9) (by omega) (by simp))
  have ZB : Hid _ := hidI (BoxIs.set hbx (.int .i64 y.kind) (.int .i64 y.n) (.string ⟨y.s.toArray⟩) (.slice a5 y.keys.length c5) (.slice a6 y.l.length c6))
  have HA := hidI hy
  clear hy hr hb9 hbx
  go_wp2_with fail
  obtain ⟨z0, z1, z2, z3, z4, -⟩ := ZB.out.c
  refine bodyPost_ret (v := .tuple #[.agg #[.int .i64 y.kind, .int .i64 y.n, .string ⟨y.s.toArray⟩, .slice a5 y.keys.length c5, .slice a6 y.l.length c6], .int .i64 ye]) ?_ rfl ?_
  · simp only [set5] at z0 z1 z2 z3 z4
    simp [results, Tryd.results16, go_sem, z0, z1, z2, z3, z4]
  · exact ⟨_, by rw [HA.out], Z.out.1, by rw [HA.out]; exact Z.out.2⟩

set_option maxRecDepth 100000 in
set_option maxHeartbeats 40000000 in
theorem one_move (o : OpT) (t : V) (hk : o.kind = 4) : OneAt (movedR t o.frm o.path) o t := by
  intro w ok v ov h ho hM
  have H := hidI h.low
  have HMM := hidI hM
  obtain ⟨l1, l2, l3⟩ := h.lens
  obtain ⟨a1, a2, c1, c2, rfl⟩ := h.form
  obtain ⟨o1, o2, o3, a7, a8, c7, c8, rfl, hx⟩ := ho
  have HX := hidI hx.low
  have q1 : (o.kind == 1) = false := by rw [hk]; rfl
  have q2 : (o.kind == 2) = false := by rw [hk]; rfl
  have q3 : (o.kind == 3) = false := by rw [hk]; rfl
  have q4 : (o.kind == 4) = true := by rw [hk]; rfl
  clear h hM hx hk
  have B3 : Hid (∀ o1 o2 o3, Below w.heap.size w (((w.alloc o1).alloc o2).alloc o3)) := fun o1 o2 o3 => bel_trans (bel_trans (bel_alloc _ _) (bel_alloc _ _)) (bel_alloc _ _)
  go_enter Tryd.func16, Tryd.ntmps16
  go_wp2_with fail
  refine (moved_is _ (fun k => ok k ∧ k < w.heap.size) t _ o.frm o.path (by exact H.out.bel (B3.out _ _ _)) o3 o2 (by exact HMM.out.bel (B3.out _ _ _))).mono ?_
  rintro e w9 ⟨r, rfl, hb9, hr⟩
  obtain ⟨y, hy⟩ : ∃ y, movedR t o.frm o.path = y := ⟨_, rfl⟩
  rw [hy] at hr ⊢
  obtain ⟨y, ye⟩ := y
  simp only at hr ⊢
  obtain ⟨a5, a6, c5, c6, rfl⟩ := hr.form
  have hbx := box_bel hb9 (h3c w _ _ _)
  obtain ⟨x0, x1, x2, x3, x4, y0, y1, y2, y3, y4⟩ := BoxIs.c hbx
  have Z : Hid (_ ∧ _) := hidI (set_out (g := w.heap.size + 2) hr (bel_trans (B3.out _ _ _) hb9) (by omega) (by simp))
  have ZB : Hid _ := hidI (BoxIs.set hbx (.int .i64 y.kind) (.int .i64 y.n) (.string ⟨y.s.toArray⟩) (.slice a5 y.keys.length c5) (.slice a6 y.l.length c6))
  have HA := hidI hy
  clear hy hr hb9 hbx
  go_wp2_with fail
  obtain ⟨z0, z1, z2, z3, z4, -⟩ := ZB.out.c
  refine bodyPost_ret (v := .tuple #[.agg #[.int .i64 y.kind, .int .i64 y.n, .string ⟨y.s.toArray⟩, .slice a5 y.keys.length c5, .slice a6 y.l.length c6], .int .i64 ye]) ?_ rfl ?_
  · simp only [set5] at z0 z1 z2 z3 z4
    simp [results, Tryd.results16, go_sem, z0, z1, z2, z3, z4]
  · exact ⟨_, by rw [HA.out], Z.out.1, by rw [HA.out]; exact Z.out.2⟩

set_option maxRecDepth 100000 in
set_option maxHeartbeats 40000000 in
theorem one_copy (o : OpT) (t : V) (hk : o.kind = 5) : OneAt (copiedR t o.frm o.path) o t := by
  intro w ok v ov h ho hM
  have H := hidI h.low
  have HMM := hidI hM
  obtain ⟨l1, l2, l3⟩ := h.lens
  obtain ⟨a1, a2, c1, c2, rfl⟩ := h.form
  obtain ⟨o1, o2, o3, a7, a8, c7, c8, rfl, hx⟩ := ho
  have HX := hidI hx.low
  have q1 : (o.kind == 1) = false := by rw [hk]; rfl
  have q2 : (o.kind == 2) = false := by rw [hk]; rfl
  have q3 : (o.kind == 3) = false := by rw [hk]; rfl
  have q4 : (o.kind == 4) = false := by rw [hk]; rfl
  have q5 : (o.kind == 5) = true := by rw [hk]; rfl
  clear h hM hx hk
  have B3 : Hid (∀ o1 o2 o3, Below w.heap.size w (((w.alloc o1).alloc o2).alloc o3)) := fun o1 o2 o3 => bel_trans (bel_trans (bel_alloc _ _) (bel_alloc _ _)) (bel_alloc _ _)
  go_enter Tryd.func16, Tryd.ntmps16
  go_wp2_with fail
  refine (copied_is _ (fun k => ok k ∧ k < w.heap.size) t _ o.frm o.path (by exact H.out.bel (B3.out _ _ _)) o3 o2 (by exact HMM.out.bel (B3.out _ _ _))).mono ?_
  rintro e w9 ⟨r, rfl, hb9, hr⟩
  obtain ⟨y, hy⟩ : ∃ y, copiedR t o.frm o.path = y := ⟨_, rfl⟩
  rw [hy] at hr ⊢
  obtain ⟨y, ye⟩ := y
  simp only at hr ⊢
  obtain ⟨a5, a6, c5, c6, rfl⟩ := hr.form
  have hbx := box_bel hb9 (h3c w _ _ _)
  obtain ⟨x0, x1, x2, x3, x4, y0, y1, y2, y3, y4⟩ := BoxIs.c hbx
  have Z : Hid (_ ∧ _) := hidI (set_out (g := w.heap.size + 2) hr (bel_trans (B3.out _ _ _) hb9) (by omega) (by simp))
  have ZB : Hid _ := hidI (BoxIs.set hbx (.int .i64 y.kind) (.int .i64 y.n) (.string ⟨y.s.toArray⟩) (.slice a5 y.keys.length c5) (.slice a6 y.l.length c6))
  have HA := hidI hy
  clear hy hr hb9 hbx
  go_wp2_with fail
  obtain ⟨z0, z1, z2, z3, z4, -⟩ := ZB.out.c
  refine bodyPost_ret (v := .tuple #[.agg #[.int .i64 y.kind, .int .i64 y.n, .string ⟨y.s.toArray⟩, .slice a5 y.keys.length c5, .slice a6 y.l.length c6], .int .i64 ye]) ?_ rfl ?_
  · simp only [set5] at z0 z1 z2 z3 z4
    simp [results, Tryd.results16, go_sem, z0, z1, z2, z3, z4]
  · exact ⟨_, by rw [HA.out], Z.out.1, by rw [HA.out]; exact Z.out.2⟩

set_option maxRecDepth 100000 in
set_option maxHeartbeats 40000000 in
theorem one_other (o : OpT) (t : V) (hk : ∀ i : Int, 1 ≤ i → i ≤ 6 → o.kind ≠ i) : OneAt (t, 9) o t := by
  intro w ok v ov h ho hM
  have H := hidI h.low
  obtain ⟨l1, l2, l3⟩ := h.lens
  obtain ⟨a1, a2, c1, c2, rfl⟩ := h.form
  obtain ⟨o1, o2, o3, a7, a8, c7, c8, rfl, hx⟩ := ho
  have q : ∀ i : Int, 1 ≤ i → i ≤ 6 → (o.kind == i) = false := fun i h1 h2 => by rw [beq_eq_false_iff_ne]; exact hk i h1 h2
  have q1 := q 1 (by omega) (by omega)
  have q2 := q 2 (by omega) (by omega)
  have q3 := q 3 (by omega) (by omega)
  have q4 := q 4 (by omega) (by omega)
  have q5 := q 5 (by omega) (by omega)
  have q6 := q 6 (by omega) (by omega)
  have HB : Hid (Below w.heap.size w (((w.alloc (.cells #[.int .i64 t.kind, .int .i64 t.n, .string ⟨t.s.toArray⟩, .slice a1 t.keys.length c1, .slice a2 t.l.length c2] 25)).alloc (.cells #[.int .i64 o.kind, .string ⟨o.path.toArray⟩, .string ⟨o.frm.toArray⟩, .int .i64 o.value.kind, .int .i64 o.value.n, .string ⟨o.value.s.toArray⟩, .slice a7 o.value.keys.length c7, .slice a8 o.value.l.length c8] 39)).alloc (.cells #[.int .i64 t.kind, .int .i64 t.n, .string ⟨t.s.toArray⟩, .slice a1 t.keys.length c1, .slice a2 t.l.length c2] 25))) := bel_trans (bel_trans (bel_alloc _ _) (bel_alloc _ _)) (bel_alloc _ _)
  have K := hidI ((H.out.bel HB.out).weak (low_out))
  clear h hM hx hk q
  go_enter Tryd.func16, Tryd.ntmps16
  go_wp2_with fail
  refine bodyPost_ret (v := .tuple #[.agg #[.int .i64 t.kind, .int .i64 t.n, .string ⟨t.s.toArray⟩, .slice a1 t.keys.length c1, .slice a2 t.l.length c2], .int .i64 9]) ?_ rfl ?_
  · simp [results, Tryd.results16, go_sem]
  · exact ⟨_, rfl, HB.out, K.out⟩
end Go.Proofs.YthaoelchpaofkacDoor
