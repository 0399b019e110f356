/- What Merge and Diff of package merge do. -/
import Derived.Test.YtfbddgpekbhpfacGreatDoorGMc
import Derived.Test.YtfbddgpekbhpfacGreatDoorGMd
import Derived.Test.YtfbddgpekbhpfacGreatDoorGMf
set_option linter.unusedSimpArgs false
set_option linter.unusedVariables false
namespace Go.Proofs.YtfbddgpekbhpfacGreatDoor
open Go.RowKit

def mergeR (v p : V) : V × Int := if (!goodV v || !goodV p) = true then (v, 1) else if goodV (mergeF 12 v p) = true then (mergeF 12 v p, 0) else (v, 2)
noncomputable def diffR (v p : V) : V × Int := if (!goodV v || !goodV p || !cleanF 12 p) = true then (zeroT, 1) else if goodV (diffF 12 v p) = true then (diffF 12 v p, 0) else (zeroT, 2)

set_option maxRecDepth 100000 in
set_option maxHeartbeats 40000000 in
theorem merge_is (w : World) (ok : Nat → Prop) (v p : V) (vv pv : Value) (h : In w ok v vv) (hp : In w ok p pv) :
    Calls Tryz.prog 4 #[vv, pv] w fun e w' => ∃ r, e = .returned (.tuple #[r, .int .i64 (mergeR v p).2]) ∧ Below w.heap.size w w' ∧ In w' (okN ok w.heap.size) (mergeR v p).1 r := by
  have H := hidI h.low
  have HP := hidI hp.low
  obtain ⟨l1, l2, l3⟩ := h.lens
  obtain ⟨l4, l5, l6⟩ := hp.lens
  obtain ⟨a1, a2, c1, c2, rfl⟩ := h.form
  obtain ⟨a3, a4, c3, c4, rfl⟩ := hp.form
  clear h hp
  have B3 : Hid (∀ o1 o2 o3, Below w.heap.size w (((w.alloc o1).alloc o2).alloc o3)) := fun o1 o2 o3 => bel_trans (bel_trans (bel_alloc _ _) (bel_alloc _ _)) (bel_alloc _ _)
  cases gv : goodV v with
  | false =>
    have GV := hidI gv
    clear gv
    go_enter Tryz.func4, Tryz.ntmps4
    go_wp2_with fail
    refine (good_is _ _ v _ (by exact H.out.bel (B3.out _ _ _))).mono ?_
    rintro e w1 ⟨rfl, hb1⟩
    rw [GV.out]
    have K1 : Hid (BoxIs w1 w.heap.size (.int .i64 v.kind) (.int .i64 v.n) (.string ⟨v.s.toArray⟩) (.slice a1 v.keys.length c1) (.slice a2 v.l.length c2) ∧ BoxIs w1 (w.heap.size + 1) (.int .i64 p.kind) (.int .i64 p.n) (.string ⟨p.s.toArray⟩) (.slice a3 p.keys.length c3) (.slice a4 p.l.length c4) ∧ BoxIs w1 (w.heap.size + 2) (.int .i64 0) (.int .i64 0) (.string ⟨#[]⟩) (.slice none 0 0) (.slice none 0 0) ∧ Below w.heap.size w w1) := hidI ⟨box_bel hb1 (h3a w _ _ _), box_bel hb1 (h3b w _ _ _), box_bel hb1 (h3c w _ _ _), bel_trans (B3.out _ _ _) hb1⟩
    clear hb1
    obtain ⟨y0, y1, y2, y3, y4, -⟩ := K1.out.1.c
    obtain ⟨z0, z1, z2, z3, z4, z5, z6, z7, z8, z9⟩ := K1.out.2.2.1.c
    have Z : Hid (_ ∧ _) := hidI (sto_out (ok := ok) (g := w.heap.size + 2) (C := w.heap.size + 3) ((H.out.bel K1.out.2.2.2).weak lowN_low) K1.out.2.2.2 (by omega) (by omega))
    have ZB : Hid _ := hidI (K1.out.2.2.1.set (.int .i64 v.kind) (.int .i64 v.n) (.string ⟨v.s.toArray⟩) (.slice a1 v.keys.length c1) (.slice a2 v.l.length c2))
    have HA : Hid (mergeR v p = (v, 1)) := hidI (by unfold mergeR; rw [if_pos (by simp [GV.out])])
    go_wp2_with fail
    obtain ⟨q0, q1, q2, q3, q4, -⟩ := ZB.out.c
    refine bodyPost_ret (v := .tuple #[.agg #[.int .i64 v.kind, .int .i64 v.n, .string ⟨v.s.toArray⟩, .slice a1 v.keys.length c1, .slice a2 v.l.length c2], .int .i64 1]) ?_ rfl ?_
    · simp only [set5] at q0 q1 q2 q3 q4
      simp [results, Tryz.results4, go_sem, q0, q1, q2, q3, q4]
    · exact ⟨_, by rw [HA.out], Z.out.1, by rw [HA.out]; exact Z.out.2⟩
  | true =>
    have GV := hidI gv
    have NV : Hid (Nice v) := hidI (nice_of gv)
    clear gv
    cases gp : goodV p with
    | false =>
      have GP := hidI gp
      clear gp
      go_enter Tryz.func4, Tryz.ntmps4
      go_wp2_with fail
      refine (good_is _ _ v _ (by exact H.out.bel (B3.out _ _ _))).mono ?_
      rintro e w1 ⟨rfl, hb1⟩
      rw [GV.out]
      have K1 : Hid (BoxIs w1 w.heap.size (.int .i64 v.kind) (.int .i64 v.n) (.string ⟨v.s.toArray⟩) (.slice a1 v.keys.length c1) (.slice a2 v.l.length c2) ∧ BoxIs w1 (w.heap.size + 1) (.int .i64 p.kind) (.int .i64 p.n) (.string ⟨p.s.toArray⟩) (.slice a3 p.keys.length c3) (.slice a4 p.l.length c4) ∧ BoxIs w1 (w.heap.size + 2) (.int .i64 0) (.int .i64 0) (.string ⟨#[]⟩) (.slice none 0 0) (.slice none 0 0) ∧ Below w.heap.size w w1) := hidI ⟨box_bel hb1 (h3a w _ _ _), box_bel hb1 (h3b w _ _ _), box_bel hb1 (h3c w _ _ _), bel_trans (B3.out _ _ _) hb1⟩
      clear hb1
      obtain ⟨p0, p1, p2, p3, p4, -⟩ := K1.out.2.1.c
      go_wp2_with fail
      refine (good_is _ _ p _ (by exact HP.out.bel K1.out.2.2.2)).mono ?_
      rintro e w2 ⟨rfl, hb2⟩
      rw [GP.out]
      have K2 : Hid (BoxIs w2 w.heap.size (.int .i64 v.kind) (.int .i64 v.n) (.string ⟨v.s.toArray⟩) (.slice a1 v.keys.length c1) (.slice a2 v.l.length c2) ∧ BoxIs w2 (w.heap.size + 1) (.int .i64 p.kind) (.int .i64 p.n) (.string ⟨p.s.toArray⟩) (.slice a3 p.keys.length c3) (.slice a4 p.l.length c4) ∧ BoxIs w2 (w.heap.size + 2) (.int .i64 0) (.int .i64 0) (.string ⟨#[]⟩) (.slice none 0 0) (.slice none 0 0) ∧ Below w.heap.size w w2) := hidI ⟨box_bel hb2 K1.out.1, box_bel hb2 K1.out.2.1, box_bel hb2 K1.out.2.2.1, bel_trans K1.out.2.2.2 hb2⟩
      clear hb2 p0 p1 p2 p3 p4
      obtain ⟨y0, y1, y2, y3, y4, -⟩ := K2.out.1.c
      obtain ⟨z0, z1, z2, z3, z4, z5, z6, z7, z8, z9⟩ := K2.out.2.2.1.c
      have Z : Hid (_ ∧ _) := hidI (sto_out (ok := ok) (g := w.heap.size + 2) (C := w.heap.size + 3) ((H.out.bel K2.out.2.2.2).weak lowN_low) K2.out.2.2.2 (by omega) (by omega))
      have ZB : Hid _ := hidI (K2.out.2.2.1.set (.int .i64 v.kind) (.int .i64 v.n) (.string ⟨v.s.toArray⟩) (.slice a1 v.keys.length c1) (.slice a2 v.l.length c2))
      have HA : Hid (mergeR v p = (v, 1)) := hidI (by unfold mergeR; rw [if_pos (by simp [GV.out, GP.out])])
      go_wp2_with fail
      obtain ⟨q0, q1, q2, q3, q4, -⟩ := ZB.out.c
      refine bodyPost_ret (v := .tuple #[.agg #[.int .i64 v.kind, .int .i64 v.n, .string ⟨v.s.toArray⟩, .slice a1 v.keys.length c1, .slice a2 v.l.length c2], .int .i64 1]) ?_ rfl ?_
      · simp only [set5] at q0 q1 q2 q3 q4
        simp [results, Tryz.results4, go_sem, q0, q1, q2, q3, q4]
      · exact ⟨_, by rw [HA.out], Z.out.1, by rw [HA.out]; exact Z.out.2⟩
    | true =>
      have GP := hidI gp
      have NP : Hid (Nice p) := hidI (nice_of gp)
      have DP : Hid (Dep 12 p) := hidI (GoodT.dep 12 (goodV_tree gp))
      clear gp
      go_enter Tryz.func4, Tryz.ntmps4
      go_wp2_with fail
      refine (good_is _ _ v _ (by exact H.out.bel (B3.out _ _ _))).mono ?_
      rintro e w1 ⟨rfl, hb1⟩
      rw [GV.out]
      have K1 : Hid (BoxIs w1 w.heap.size (.int .i64 v.kind) (.int .i64 v.n) (.string ⟨v.s.toArray⟩) (.slice a1 v.keys.length c1) (.slice a2 v.l.length c2) ∧ BoxIs w1 (w.heap.size + 1) (.int .i64 p.kind) (.int .i64 p.n) (.string ⟨p.s.toArray⟩) (.slice a3 p.keys.length c3) (.slice a4 p.l.length c4) ∧ BoxIs w1 (w.heap.size + 2) (.int .i64 0) (.int .i64 0) (.string ⟨#[]⟩) (.slice none 0 0) (.slice none 0 0) ∧ Below w.heap.size w w1) := hidI ⟨box_bel hb1 (h3a w _ _ _), box_bel hb1 (h3b w _ _ _), box_bel hb1 (h3c w _ _ _), bel_trans (B3.out _ _ _) hb1⟩
      clear hb1
      obtain ⟨p0, p1, p2, p3, p4, -⟩ := K1.out.2.1.c
      go_wp2_with fail
      refine (good_is _ _ p _ (by exact HP.out.bel K1.out.2.2.2)).mono ?_
      rintro e w2 ⟨rfl, hb2⟩
      rw [GP.out]
      have K2 : Hid (BoxIs w2 w.heap.size (.int .i64 v.kind) (.int .i64 v.n) (.string ⟨v.s.toArray⟩) (.slice a1 v.keys.length c1) (.slice a2 v.l.length c2) ∧ BoxIs w2 (w.heap.size + 1) (.int .i64 p.kind) (.int .i64 p.n) (.string ⟨p.s.toArray⟩) (.slice a3 p.keys.length c3) (.slice a4 p.l.length c4) ∧ BoxIs w2 (w.heap.size + 2) (.int .i64 0) (.int .i64 0) (.string ⟨#[]⟩) (.slice none 0 0) (.slice none 0 0) ∧ Below w.heap.size w w2) := hidI ⟨box_bel hb2 K1.out.1, box_bel hb2 K1.out.2.1, box_bel hb2 K1.out.2.2.1, bel_trans K1.out.2.2.2 hb2⟩
      clear hb2 p0 p1 p2 p3 p4
      obtain ⟨p0, p1, p2, p3, p4, -⟩ := K2.out.2.1.c
      obtain ⟨y0, y1, y2, y3, y4, -⟩ := K2.out.1.c
      go_wp2_with fail
      refine (merged_is 12 _ (lowN ok w.heap.size (w.heap.size + 3)) v p _ _ (by exact (H.out.bel K2.out.2.2.2).weak lowN_low) (by exact (HP.out.bel K2.out.2.2.2).weak lowN_low) NV.out NP.out DP.out).mono ?_
      rintro e w4 ⟨r, rfl, hb4, hr⟩
      obtain ⟨m, hm⟩ : ∃ m, mergeF 12 v p = m := ⟨_, rfl⟩
      rw [hm] at hr
      obtain ⟨a5, a6, c5, c6, rfl⟩ := hr.form
      have hbb := bel_trans hb4 (bel_alloc w4 (.cells #[.int .i64 m.kind, .int .i64 m.n, .string ⟨m.s.toArray⟩, .slice a5 m.keys.length c5, .slice a6 m.l.length c6] 25))
      have K4 : Hid (BoxIs (w4.alloc (.cells #[.int .i64 m.kind, .int .i64 m.n, .string ⟨m.s.toArray⟩, .slice a5 m.keys.length c5, .slice a6 m.l.length c6] 25)) w.heap.size (.int .i64 v.kind) (.int .i64 v.n) (.string ⟨v.s.toArray⟩) (.slice a1 v.keys.length c1) (.slice a2 v.l.length c2) ∧ BoxIs (w4.alloc (.cells #[.int .i64 m.kind, .int .i64 m.n, .string ⟨m.s.toArray⟩, .slice a5 m.keys.length c5, .slice a6 m.l.length c6] 25)) (w.heap.size + 1) (.int .i64 p.kind) (.int .i64 p.n) (.string ⟨p.s.toArray⟩) (.slice a3 p.keys.length c3) (.slice a4 p.l.length c4) ∧ BoxIs (w4.alloc (.cells #[.int .i64 m.kind, .int .i64 m.n, .string ⟨m.s.toArray⟩, .slice a5 m.keys.length c5, .slice a6 m.l.length c6] 25)) (w.heap.size + 2) (.int .i64 0) (.int .i64 0) (.string ⟨#[]⟩) (.slice none 0 0) (.slice none 0 0) ∧ Below w.heap.size w (w4.alloc (.cells #[.int .i64 m.kind, .int .i64 m.n, .string ⟨m.s.toArray⟩, .slice a5 m.keys.length c5, .slice a6 m.l.length c6] 25))) := hidI ⟨box_bel hbb K2.out.1, box_bel hbb K2.out.2.1, box_bel hbb K2.out.2.2.1, bel_trans K2.out.2.2.2 hbb⟩
      have M4 : Hid (In (w4.alloc (.cells #[.int .i64 m.kind, .int .i64 m.n, .string ⟨m.s.toArray⟩, .slice a5 m.keys.length c5, .slice a6 m.l.length c6] 25)) (lowN ok w.heap.size (w.heap.size + 3)) m (.agg #[.int .i64 m.kind, .int .i64 m.n, .string ⟨m.s.toArray⟩, .slice a5 m.keys.length c5, .slice a6 m.l.length c6]) ∧ BoxIs (w4.alloc (.cells #[.int .i64 m.kind, .int .i64 m.n, .string ⟨m.s.toArray⟩, .slice a5 m.keys.length c5, .slice a6 m.l.length c6] 25)) w4.heap.size (.int .i64 m.kind) (.int .i64 m.n) (.string ⟨m.s.toArray⟩) (.slice a5 m.keys.length c5) (.slice a6 m.l.length c6)) := hidI ⟨(hr.weak (lowN_up K2.out.2.2.1.lt)).bel (bel_alloc _ _), heap_alloc_new w4 _⟩
      have HM := hidI hm
      clear hm hr hb4 hbb p0 p1 p2 p3 p4 y0 y1 y2 y3 y4
      go_wp2_with fail
      refine (good_is _ _ m _ (by exact M4.out.1)).mono ?_
      rintro e w5 ⟨rfl, hb5⟩
      have K5 : Hid (BoxIs w5 w.heap.size (.int .i64 v.kind) (.int .i64 v.n) (.string ⟨v.s.toArray⟩) (.slice a1 v.keys.length c1) (.slice a2 v.l.length c2) ∧ BoxIs w5 (w.heap.size + 1) (.int .i64 p.kind) (.int .i64 p.n) (.string ⟨p.s.toArray⟩) (.slice a3 p.keys.length c3) (.slice a4 p.l.length c4) ∧ BoxIs w5 (w.heap.size + 2) (.int .i64 0) (.int .i64 0) (.string ⟨#[]⟩) (.slice none 0 0) (.slice none 0 0) ∧ Below w.heap.size w w5) := hidI ⟨box_bel hb5 K4.out.1, box_bel hb5 K4.out.2.1, box_bel hb5 K4.out.2.2.1, bel_trans K4.out.2.2.2 hb5⟩
      have M5 : Hid (In w5 (lowN ok w.heap.size (w.heap.size + 3)) m (.agg #[.int .i64 m.kind, .int .i64 m.n, .string ⟨m.s.toArray⟩, .slice a5 m.keys.length c5, .slice a6 m.l.length c6]) ∧ BoxIs w5 w4.heap.size (.int .i64 m.kind) (.int .i64 m.n) (.string ⟨m.s.toArray⟩) (.slice a5 m.keys.length c5) (.slice a6 m.l.length c6)) := hidI ⟨M4.out.1.bel hb5, box_bel hb5 M4.out.2⟩
      clear hb5
      cases gm : goodV m with
      | false =>
        have GM := hidI gm
        clear gm
        obtain ⟨y0, y1, y2, y3, y4, -⟩ := K5.out.1.c
        obtain ⟨z0, z1, z2, z3, z4, z5, z6, z7, z8, z9⟩ := K5.out.2.2.1.c
        have Z : Hid (_ ∧ _) := hidI (sto_out (ok := ok) (g := w.heap.size + 2) (C := w.heap.size + 3) ((H.out.bel K5.out.2.2.2).weak lowN_low) K5.out.2.2.2 (by omega) (by omega))
        have ZB : Hid _ := hidI (K5.out.2.2.1.set (.int .i64 v.kind) (.int .i64 v.n) (.string ⟨v.s.toArray⟩) (.slice a1 v.keys.length c1) (.slice a2 v.l.length c2))
        have HA : Hid (mergeR v p = (v, 2)) := hidI (by unfold mergeR; rw [if_neg (by simp [GV.out, GP.out]), HM.out, if_neg (by simp [GM.out])])
        go_wp2_with fail
        obtain ⟨q0, q1, q2, q3, q4, -⟩ := ZB.out.c
        refine bodyPost_ret (v := .tuple #[.agg #[.int .i64 v.kind, .int .i64 v.n, .string ⟨v.s.toArray⟩, .slice a1 v.keys.length c1, .slice a2 v.l.length c2], .int .i64 2]) ?_ rfl ?_
        · simp only [set5] at q0 q1 q2 q3 q4
          simp [results, Tryz.results4, go_sem, q0, q1, q2, q3, q4]
        · exact ⟨_, by rw [HA.out], Z.out.1, by rw [HA.out]; exact Z.out.2⟩
      | true =>
        have GM := hidI gm
        clear gm
        obtain ⟨y0, y1, y2, y3, y4, -⟩ := M5.out.2.c
        obtain ⟨z0, z1, z2, z3, z4, z5, z6, z7, z8, z9⟩ := K5.out.2.2.1.c
        have Z : Hid (_ ∧ _) := hidI (sto_out (ok := ok) (g := w.heap.size + 2) (C := w.heap.size + 3) M5.out.1 K5.out.2.2.2 (by omega) (by omega))
        have ZB : Hid _ := hidI (K5.out.2.2.1.set (.int .i64 m.kind) (.int .i64 m.n) (.string ⟨m.s.toArray⟩) (.slice a5 m.keys.length c5) (.slice a6 m.l.length c6))
        have HA : Hid (mergeR v p = (m, 0)) := hidI (by unfold mergeR; rw [if_neg (by simp [GV.out, GP.out]), HM.out, if_pos GM.out])
        go_wp2_with fail
        obtain ⟨q0, q1, q2, q3, q4, -⟩ := ZB.out.c
        refine bodyPost_ret (v := .tuple #[.agg #[.int .i64 m.kind, .int .i64 m.n, .string ⟨m.s.toArray⟩, .slice a5 m.keys.length c5, .slice a6 m.l.length c6], .int .i64 0]) ?_ rfl ?_
        · simp only [set5] at q0 q1 q2 q3 q4
          simp [results, Tryz.results4, go_sem, q0, q1, q2, q3, q4]
        · exact ⟨_, by rw [HA.out], Z.out.1, by rw [HA.out]; exact Z.out.2⟩

set_option maxRecDepth 100000 in
set_option maxHeartbeats 40000000 in
theorem diff_is (w : World) (ok : Nat → Prop) (v p : V) (vv pv : Value) (h : In w ok v vv) (hp : In w ok p pv) :
    Calls Tryz.prog 10 #[vv, pv] w fun e w' => ∃ r, e = .returned (.tuple #[r, .int .i64 (diffR v p).2]) ∧ Below w.heap.size w w' ∧ In w' (okN ok w.heap.size) (diffR v p).1 r := by
  have H := hidI h.low
  have HP := hidI hp.low
  obtain ⟨l1, l2, l3⟩ := h.lens
  obtain ⟨l4, l5, l6⟩ := hp.lens
  obtain ⟨a1, a2, c1, c2, rfl⟩ := h.form
  obtain ⟨a3, a4, c3, c4, rfl⟩ := hp.form
  clear h hp
  have B3 : Hid (∀ o1 o2 o3, Below w.heap.size w (((w.alloc o1).alloc o2).alloc o3)) := fun o1 o2 o3 => bel_trans (bel_trans (bel_alloc _ _) (bel_alloc _ _)) (bel_alloc _ _)
  cases gv : goodV v with
  | false =>
    have GV := hidI gv
    clear gv
    go_enter Tryz.func10, Tryz.ntmps10
    go_wp2_with fail
    refine (good_is _ _ v _ (by exact H.out.bel (B3.out _ _ _))).mono ?_
    rintro e w1 ⟨rfl, hb1⟩
    rw [GV.out]
    have K1 : Hid (BoxIs w1 w.heap.size (.int .i64 v.kind) (.int .i64 v.n) (.string ⟨v.s.toArray⟩) (.slice a1 v.keys.length c1) (.slice a2 v.l.length c2) ∧ BoxIs w1 (w.heap.size + 1) (.int .i64 p.kind) (.int .i64 p.n) (.string ⟨p.s.toArray⟩) (.slice a3 p.keys.length c3) (.slice a4 p.l.length c4) ∧ BoxIs w1 (w.heap.size + 2) (.int .i64 0) (.int .i64 0) (.string ⟨#[]⟩) (.slice none 0 0) (.slice none 0 0) ∧ Below w.heap.size w w1) := hidI ⟨box_bel hb1 (h3a w _ _ _), box_bel hb1 (h3b w _ _ _), box_bel hb1 (h3c w _ _ _), bel_trans (B3.out _ _ _) hb1⟩
    clear hb1
    obtain ⟨z0, z1, z2, z3, z4, z5, z6, z7, z8, z9⟩ := K1.out.2.2.1.c
    have Z : Hid (_ ∧ _) := hidI (sto_out (ok := ok) (g := w.heap.size + 2) (C := w.heap.size + 3) (in_zero _ _) K1.out.2.2.2 (by omega) (by omega))
    have ZB : Hid _ := hidI (K1.out.2.2.1.set (.int .i64 0) (.int .i64 0) (.string ⟨#[]⟩) (.slice none 0 0) (.slice none 0 0))
    have HA : Hid (diffR v p = (zeroT, 1)) := hidI (by unfold diffR; rw [if_pos (by simp [GV.out])])
    go_wp2_with fail
    obtain ⟨q0, q1, q2, q3, q4, -⟩ := ZB.out.c
    refine bodyPost_ret (v := .tuple #[.agg #[.int .i64 0, .int .i64 0, .string ⟨#[]⟩, .slice none 0 0, .slice none 0 0], .int .i64 1]) ?_ rfl ?_
    · simp only [set5] at q0 q1 q2 q3 q4
      simp [results, Tryz.results10, go_sem, q0, q1, q2, q3, q4]
    · exact ⟨_, by rw [HA.out], Z.out.1, by rw [HA.out]; exact Z.out.2⟩
  | true =>
    have GV := hidI gv
    have NV : Hid (Nice v) := hidI (nice_of gv)
    clear gv
    cases gp : goodV p with
    | false =>
      have GP := hidI gp
      clear gp
      go_enter Tryz.func10, Tryz.ntmps10
      go_wp2_with fail
      refine (good_is _ _ v _ (by exact H.out.bel (B3.out _ _ _))).mono ?_
      rintro e w1 ⟨rfl, hb1⟩
      rw [GV.out]
      have K1 : Hid (BoxIs w1 w.heap.size (.int .i64 v.kind) (.int .i64 v.n) (.string ⟨v.s.toArray⟩) (.slice a1 v.keys.length c1) (.slice a2 v.l.length c2) ∧ BoxIs w1 (w.heap.size + 1) (.int .i64 p.kind) (.int .i64 p.n) (.string ⟨p.s.toArray⟩) (.slice a3 p.keys.length c3) (.slice a4 p.l.length c4) ∧ BoxIs w1 (w.heap.size + 2) (.int .i64 0) (.int .i64 0) (.string ⟨#[]⟩) (.slice none 0 0) (.slice none 0 0) ∧ Below w.heap.size w w1) := hidI ⟨box_bel hb1 (h3a w _ _ _), box_bel hb1 (h3b w _ _ _), box_bel hb1 (h3c w _ _ _), bel_trans (B3.out _ _ _) hb1⟩
      clear hb1
      obtain ⟨p0, p1, p2, p3, p4, -⟩ := K1.out.2.1.c
      go_wp2_with fail
      refine (good_is _ _ p _ (by exact HP.out.bel K1.out.2.2.2)).mono ?_
      rintro e w2 ⟨rfl, hb2⟩
      rw [GP.out]
      have K2 : Hid (BoxIs w2 w.heap.size (.int .i64 v.kind) (.int .i64 v.n) (.string ⟨v.s.toArray⟩) (.slice a1 v.keys.length c1) (.slice a2 v.l.length c2) ∧ BoxIs w2 (w.heap.size + 1) (.int .i64 p.kind) (.int .i64 p.n) (.string ⟨p.s.toArray⟩) (.slice a3 p.keys.length c3) (.slice a4 p.l.length c4) ∧ BoxIs w2 (w.heap.size + 2) (.int .i64 0) (.int .i64 0) (.string ⟨#[]⟩) (.slice none 0 0) (.slice none 0 0) ∧ Below w.heap.size w w2) := hidI ⟨box_bel hb2 K1.out.1, box_bel hb2 K1.out.2.1, box_bel hb2 K1.out.2.2.1, bel_trans K1.out.2.2.2 hb2⟩
      clear hb2 p0 p1 p2 p3 p4
      obtain ⟨z0, z1, z2, z3, z4, z5, z6, z7, z8, z9⟩ := K2.out.2.2.1.c
      have Z : Hid (_ ∧ _) := hidI (sto_out (ok := ok) (g := w.heap.size + 2) (C := w.heap.size + 3) (in_zero _ _) K2.out.2.2.2 (by omega) (by omega))
      have ZB : Hid _ := hidI (K2.out.2.2.1.set (.int .i64 0) (.int .i64 0) (.string ⟨#[]⟩) (.slice none 0 0) (.slice none 0 0))
      have HA : Hid (diffR v p = (zeroT, 1)) := hidI (by unfold diffR; rw [if_pos (by simp [GV.out, GP.out])])
      go_wp2_with fail
      obtain ⟨q0, q1, q2, q3, q4, -⟩ := ZB.out.c
      refine bodyPost_ret (v := .tuple #[.agg #[.int .i64 0, .int .i64 0, .string ⟨#[]⟩, .slice none 0 0, .slice none 0 0], .int .i64 1]) ?_ rfl ?_
      · simp only [set5] at q0 q1 q2 q3 q4
        simp [results, Tryz.results10, go_sem, q0, q1, q2, q3, q4]
      · exact ⟨_, by rw [HA.out], Z.out.1, by rw [HA.out]; exact Z.out.2⟩
    | true =>
      have GP := hidI gp
      have NP : Hid (Nice p) := hidI (nice_of gp)
      have DP : Hid (Dep 12 p) := hidI (GoodT.dep 12 (goodV_tree gp))
      clear gp
      have CP : Hid (cleanF 12 p = cln p) := hidI (clean_cln 12 p (goodV_tree GP.out))
      cases gc : cln p with
      | false =>
        have GC := hidI gc
        clear gc
        go_enter Tryz.func10, Tryz.ntmps10
        go_wp2_with fail
        refine (good_is _ _ v _ (by exact H.out.bel (B3.out _ _ _))).mono ?_
        rintro e w1 ⟨rfl, hb1⟩
        rw [GV.out]
        have K1 : Hid (BoxIs w1 w.heap.size (.int .i64 v.kind) (.int .i64 v.n) (.string ⟨v.s.toArray⟩) (.slice a1 v.keys.length c1) (.slice a2 v.l.length c2) ∧ BoxIs w1 (w.heap.size + 1) (.int .i64 p.kind) (.int .i64 p.n) (.string ⟨p.s.toArray⟩) (.slice a3 p.keys.length c3) (.slice a4 p.l.length c4) ∧ BoxIs w1 (w.heap.size + 2) (.int .i64 0) (.int .i64 0) (.string ⟨#[]⟩) (.slice none 0 0) (.slice none 0 0) ∧ Below w.heap.size w w1) := hidI ⟨box_bel hb1 (h3a w _ _ _), box_bel hb1 (h3b w _ _ _), box_bel hb1 (h3c w _ _ _), bel_trans (B3.out _ _ _) hb1⟩
        clear hb1
        obtain ⟨p0, p1, p2, p3, p4, -⟩ := K1.out.2.1.c
        go_wp2_with fail
        refine (good_is _ _ p _ (by exact HP.out.bel K1.out.2.2.2)).mono ?_
        rintro e w2 ⟨rfl, hb2⟩
        rw [GP.out]
        have K2 : Hid (BoxIs w2 w.heap.size (.int .i64 v.kind) (.int .i64 v.n) (.string ⟨v.s.toArray⟩) (.slice a1 v.keys.length c1) (.slice a2 v.l.length c2) ∧ BoxIs w2 (w.heap.size + 1) (.int .i64 p.kind) (.int .i64 p.n) (.string ⟨p.s.toArray⟩) (.slice a3 p.keys.length c3) (.slice a4 p.l.length c4) ∧ BoxIs w2 (w.heap.size + 2) (.int .i64 0) (.int .i64 0) (.string ⟨#[]⟩) (.slice none 0 0) (.slice none 0 0) ∧ Below w.heap.size w w2) := hidI ⟨box_bel hb2 K1.out.1, box_bel hb2 K1.out.2.1, box_bel hb2 K1.out.2.2.1, bel_trans K1.out.2.2.2 hb2⟩
        clear hb2 p0 p1 p2 p3 p4
        obtain ⟨p0, p1, p2, p3, p4, -⟩ := K2.out.2.1.c
        go_wp2_with fail
        refine (clean_is _ _ p _ (by exact HP.out.bel K2.out.2.2.2) (by have := nice_cnt NP.out; omega)).mono ?_
        rintro e w3 ⟨rfl, hb3⟩
        rw [GC.out]
        have K3 : Hid (BoxIs w3 w.heap.size (.int .i64 v.kind) (.int .i64 v.n) (.string ⟨v.s.toArray⟩) (.slice a1 v.keys.length c1) (.slice a2 v.l.length c2) ∧ BoxIs w3 (w.heap.size + 1) (.int .i64 p.kind) (.int .i64 p.n) (.string ⟨p.s.toArray⟩) (.slice a3 p.keys.length c3) (.slice a4 p.l.length c4) ∧ BoxIs w3 (w.heap.size + 2) (.int .i64 0) (.int .i64 0) (.string ⟨#[]⟩) (.slice none 0 0) (.slice none 0 0) ∧ Below w.heap.size w w3) := hidI ⟨box_bel hb3 K2.out.1, box_bel hb3 K2.out.2.1, box_bel hb3 K2.out.2.2.1, bel_trans K2.out.2.2.2 hb3⟩
        clear hb3 p0 p1 p2 p3 p4
        obtain ⟨z0, z1, z2, z3, z4, z5, z6, z7, z8, z9⟩ := K3.out.2.2.1.c
        have Z : Hid (_ ∧ _) := hidI (sto_out (ok := ok) (g := w.heap.size + 2) (C := w.heap.size + 3) (in_zero _ _) K3.out.2.2.2 (by omega) (by omega))
        have ZB : Hid _ := hidI (K3.out.2.2.1.set (.int .i64 0) (.int .i64 0) (.string ⟨#[]⟩) (.slice none 0 0) (.slice none 0 0))
        have HA : Hid (diffR v p = (zeroT, 1)) := hidI (by unfold diffR; rw [if_pos (by simp [GV.out, GP.out, CP.out, GC.out])])
        go_wp2_with fail
        obtain ⟨q0, q1, q2, q3, q4, -⟩ := ZB.out.c
        refine bodyPost_ret (v := .tuple #[.agg #[.int .i64 0, .int .i64 0, .string ⟨#[]⟩, .slice none 0 0, .slice none 0 0], .int .i64 1]) ?_ rfl ?_
        · simp only [set5] at q0 q1 q2 q3 q4
          simp [results, Tryz.results10, go_sem, q0, q1, q2, q3, q4]
        · exact ⟨_, by rw [HA.out], Z.out.1, by rw [HA.out]; exact Z.out.2⟩
      | true =>
        have GC := hidI gc
        clear gc
        go_enter Tryz.func10, Tryz.ntmps10
        go_wp2_with fail
        refine (good_is _ _ v _ (by exact H.out.bel (B3.out _ _ _))).mono ?_
        rintro e w1 ⟨rfl, hb1⟩
        rw [GV.out]
        have K1 : Hid (BoxIs w1 w.heap.size (.int .i64 v.kind) (.int .i64 v.n) (.string ⟨v.s.toArray⟩) (.slice a1 v.keys.length c1) (.slice a2 v.l.length c2) ∧ BoxIs w1 (w.heap.size + 1) (.int .i64 p.kind) (.int .i64 p.n) (.string ⟨p.s.toArray⟩) (.slice a3 p.keys.length c3) (.slice a4 p.l.length c4) ∧ BoxIs w1 (w.heap.size + 2) (.int .i64 0) (.int .i64 0) (.string ⟨#[]⟩) (.slice none 0 0) (.slice none 0 0) ∧ Below w.heap.size w w1) := hidI ⟨box_bel hb1 (h3a w _ _ _), box_bel hb1 (h3b w _ _ _), box_bel hb1 (h3c w _ _ _), bel_trans (B3.out _ _ _) hb1⟩
        clear hb1
        obtain ⟨p0, p1, p2, p3, p4, -⟩ := K1.out.2.1.c
        go_wp2_with fail
        refine (good_is _ _ p _ (by exact HP.out.bel K1.out.2.2.2)).mono ?_
        rintro e w2 ⟨rfl, hb2⟩
        rw [GP.out]
        have K2 : Hid (BoxIs w2 w.heap.size (.int .i64 v.kind) (.int .i64 v.n) (.string ⟨v.s.toArray⟩) (.slice a1 v.keys.length c1) (.slice a2 v.l.length c2) ∧ BoxIs w2 (w.heap.size + 1) (.int .i64 p.kind) (.int .i64 p.n) (.string ⟨p.s.toArray⟩) (.slice a3 p.keys.length c3) (.slice a4 p.l.length c4) ∧ BoxIs w2 (w.heap.size + 2) (.int .i64 0) (.int .i64 0) (.string ⟨#[]⟩) (.slice none 0 0) (.slice none 0 0) ∧ Below w.heap.size w w2) := hidI ⟨box_bel hb2 K1.out.1, box_bel hb2 K1.out.2.1, box_bel hb2 K1.out.2.2.1, bel_trans K1.out.2.2.2 hb2⟩
        clear hb2 p0 p1 p2 p3 p4
        obtain ⟨p0, p1, p2, p3, p4, -⟩ := K2.out.2.1.c
        go_wp2_with fail
        refine (clean_is _ _ p _ (by exact HP.out.bel K2.out.2.2.2) (by have := nice_cnt NP.out; omega)).mono ?_
        rintro e w3 ⟨rfl, hb3⟩
        rw [GC.out]
        have K3 : Hid (BoxIs w3 w.heap.size (.int .i64 v.kind) (.int .i64 v.n) (.string ⟨v.s.toArray⟩) (.slice a1 v.keys.length c1) (.slice a2 v.l.length c2) ∧ BoxIs w3 (w.heap.size + 1) (.int .i64 p.kind) (.int .i64 p.n) (.string ⟨p.s.toArray⟩) (.slice a3 p.keys.length c3) (.slice a4 p.l.length c4) ∧ BoxIs w3 (w.heap.size + 2) (.int .i64 0) (.int .i64 0) (.string ⟨#[]⟩) (.slice none 0 0) (.slice none 0 0) ∧ Below w.heap.size w w3) := hidI ⟨box_bel hb3 K2.out.1, box_bel hb3 K2.out.2.1, box_bel hb3 K2.out.2.2.1, bel_trans K2.out.2.2.2 hb3⟩
        clear hb3 p0 p1 p2 p3 p4
        obtain ⟨p0, p1, p2, p3, p4, -⟩ := K3.out.2.1.c
        obtain ⟨y0, y1, y2, y3, y4, -⟩ := K3.out.1.c
        go_wp2_with fail
        refine (other_is 12 _ (lowN ok w.heap.size (w.heap.size + 3)) v p _ _ (by exact (H.out.bel K3.out.2.2.2).weak lowN_low) (by exact (HP.out.bel K3.out.2.2.2).weak lowN_low) NV.out NP.out DP.out).mono ?_
        rintro e w4 ⟨r, rfl, hb4, hr⟩
        obtain ⟨m, hm⟩ : ∃ m, diffF 12 v p = m := ⟨_, rfl⟩
        rw [hm] at hr
        obtain ⟨a5, a6, c5, c6, rfl⟩ := hr.form
        have hbb := bel_trans hb4 (bel_alloc w4 (.cells #[.int .i64 m.kind, .int .i64 m.n, .string ⟨m.s.toArray⟩, .slice a5 m.keys.length c5, .slice a6 m.l.length c6] 25))
        have K4 : Hid (BoxIs (w4.alloc (.cells #[.int .i64 m.kind, .int .i64 m.n, .string ⟨m.s.toArray⟩, .slice a5 m.keys.length c5, .slice a6 m.l.length c6] 25)) w.heap.size (.int .i64 v.kind) (.int .i64 v.n) (.string ⟨v.s.toArray⟩) (.slice a1 v.keys.length c1) (.slice a2 v.l.length c2) ∧ BoxIs (w4.alloc (.cells #[.int .i64 m.kind, .int .i64 m.n, .string ⟨m.s.toArray⟩, .slice a5 m.keys.length c5, .slice a6 m.l.length c6] 25)) (w.heap.size + 1) (.int .i64 p.kind) (.int .i64 p.n) (.string ⟨p.s.toArray⟩) (.slice a3 p.keys.length c3) (.slice a4 p.l.length c4) ∧ BoxIs (w4.alloc (.cells #[.int .i64 m.kind, .int .i64 m.n, .string ⟨m.s.toArray⟩, .slice a5 m.keys.length c5, .slice a6 m.l.length c6] 25)) (w.heap.size + 2) (.int .i64 0) (.int .i64 0) (.string ⟨#[]⟩) (.slice none 0 0) (.slice none 0 0) ∧ Below w.heap.size w (w4.alloc (.cells #[.int .i64 m.kind, .int .i64 m.n, .string ⟨m.s.toArray⟩, .slice a5 m.keys.length c5, .slice a6 m.l.length c6] 25))) := hidI ⟨box_bel hbb K3.out.1, box_bel hbb K3.out.2.1, box_bel hbb K3.out.2.2.1, bel_trans K3.out.2.2.2 hbb⟩
        have M4 : Hid (In (w4.alloc (.cells #[.int .i64 m.kind, .int .i64 m.n, .string ⟨m.s.toArray⟩, .slice a5 m.keys.length c5, .slice a6 m.l.length c6] 25)) (lowN ok w.heap.size (w.heap.size + 3)) m (.agg #[.int .i64 m.kind, .int .i64 m.n, .string ⟨m.s.toArray⟩, .slice a5 m.keys.length c5, .slice a6 m.l.length c6]) ∧ BoxIs (w4.alloc (.cells #[.int .i64 m.kind, .int .i64 m.n, .string ⟨m.s.toArray⟩, .slice a5 m.keys.length c5, .slice a6 m.l.length c6] 25)) w4.heap.size (.int .i64 m.kind) (.int .i64 m.n) (.string ⟨m.s.toArray⟩) (.slice a5 m.keys.length c5) (.slice a6 m.l.length c6)) := hidI ⟨(hr.weak (lowN_up K3.out.2.2.1.lt)).bel (bel_alloc _ _), heap_alloc_new w4 _⟩
        have HM := hidI hm
        clear hm hr hb4 hbb p0 p1 p2 p3 p4 y0 y1 y2 y3 y4
        go_wp2_with fail
        refine (good_is _ _ m _ (by exact M4.out.1)).mono ?_
        rintro e w5 ⟨rfl, hb5⟩
        have K5 : Hid (BoxIs w5 w.heap.size (.int .i64 v.kind) (.int .i64 v.n) (.string ⟨v.s.toArray⟩) (.slice a1 v.keys.length c1) (.slice a2 v.l.length c2) ∧ BoxIs w5 (w.heap.size + 1) (.int .i64 p.kind) (.int .i64 p.n) (.string ⟨p.s.toArray⟩) (.slice a3 p.keys.length c3) (.slice a4 p.l.length c4) ∧ BoxIs w5 (w.heap.size + 2) (.int .i64 0) (.int .i64 0) (.string ⟨#[]⟩) (.slice none 0 0) (.slice none 0 0) ∧ Below w.heap.size w w5) := hidI ⟨box_bel hb5 K4.out.1, box_bel hb5 K4.out.2.1, box_bel hb5 K4.out.2.2.1, bel_trans K4.out.2.2.2 hb5⟩
        have M5 : Hid (In w5 (lowN ok w.heap.size (w.heap.size + 3)) m (.agg #[.int .i64 m.kind, .int .i64 m.n, .string ⟨m.s.toArray⟩, .slice a5 m.keys.length c5, .slice a6 m.l.length c6]) ∧ BoxIs w5 w4.heap.size (.int .i64 m.kind) (.int .i64 m.n) (.string ⟨m.s.toArray⟩) (.slice a5 m.keys.length c5) (.slice a6 m.l.length c6)) := hidI ⟨M4.out.1.bel hb5, box_bel hb5 M4.out.2⟩
        clear hb5
        cases gm : goodV m with
        | false =>
          have GM := hidI gm
          clear gm
          obtain ⟨z0, z1, z2, z3, z4, z5, z6, z7, z8, z9⟩ := K5.out.2.2.1.c
          have Z : Hid (_ ∧ _) := hidI (sto_out (ok := ok) (g := w.heap.size + 2) (C := w.heap.size + 3) (in_zero _ _) K5.out.2.2.2 (by omega) (by omega))
          have ZB : Hid _ := hidI (K5.out.2.2.1.set (.int .i64 0) (.int .i64 0) (.string ⟨#[]⟩) (.slice none 0 0) (.slice none 0 0))
          have HA : Hid (diffR v p = (zeroT, 2)) := hidI (by unfold diffR; rw [if_neg (by simp [GV.out, GP.out, CP.out, GC.out]), HM.out, if_neg (by simp [GM.out])])
          go_wp2_with fail
          obtain ⟨q0, q1, q2, q3, q4, -⟩ := ZB.out.c
          refine bodyPost_ret (v := .tuple #[.agg #[.int .i64 0, .int .i64 0, .string ⟨#[]⟩, .slice none 0 0, .slice none 0 0], .int .i64 2]) ?_ rfl ?_
          · simp only [set5] at q0 q1 q2 q3 q4
            simp [results, Tryz.results10, go_sem, q0, q1, q2, q3, q4]
          · exact ⟨_, by rw [HA.out], Z.out.1, by rw [HA.out]; exact Z.out.2⟩
        | true =>
          have GM := hidI gm
          clear gm
          obtain ⟨y0, y1, y2, y3, y4, -⟩ := M5.out.2.c
          obtain ⟨z0, z1, z2, z3, z4, z5, z6, z7, z8, z9⟩ := K5.out.2.2.1.c
          have Z : Hid (_ ∧ _) := hidI (sto_out (ok := ok) (g := w.heap.size + 2) (C := w.heap.size + 3) M5.out.1 K5.out.2.2.2 (by omega) (by omega))
          have ZB : Hid _ := hidI (K5.out.2.2.1.set (.int .i64 m.kind) (.int .i64 m.n) (.string ⟨m.s.toArray⟩) (.slice a5 m.keys.length c5) (.slice a6 m.l.length c6))
          have HA : Hid (diffR v p = (m, 0)) := hidI (by unfold diffR; rw [if_neg (by simp [GV.out, GP.out, CP.out, GC.out]), HM.out, if_pos GM.out])
          go_wp2_with fail
          obtain ⟨q0, q1, q2, q3, q4, -⟩ := ZB.out.c
          refine bodyPost_ret (v := .tuple #[.agg #[.int .i64 m.kind, .int .i64 m.n, .string ⟨m.s.toArray⟩, .slice a5 m.keys.length c5, .slice a6 m.l.length c6], .int .i64 0]) ?_ rfl ?_
          · simp only [set5] at q0 q1 q2 q3 q4
            simp [results, Tryz.results10, go_sem, q0, q1, q2, q3, q4]
          · exact ⟨_, by rw [HA.out], Z.out.1, by rw [HA.out]; exact Z.out.2⟩
end Go.Proofs.YtfbddgpekbhpfacGreatDoor
