/- What GoodValue of package stairwellref answers: what Good answers. -/
import Derived.Test.YtkboplcffailoaaGreatDoorFk
import Derived.Test.YtkboplcffailoaaGreatDoorFd
set_option linter.unusedSimpArgs false
set_option linter.unusedVariables false
namespace Go.Proofs.YtkboplcffailoaaGreatDoor
open Go.RowKit

theorem rshaped_is (w : World) (ok : Nat → Prop) (t : V) (v : Value) (h : In w ok t v) :
    Calls Tryz.prog 17 #[v] w fun e w' => e = .returned (.bool (shp t)) ∧ Below w.heap.size w w' := by
  obtain ⟨d, h⟩ := h; exact rshaped_all d w ok t v h
set_option maxRecDepth 100000 in
set_option maxHeartbeats 8000000 in
theorem rgood_is (w : World) (ok : Nat → Prop) (t : V) (v : Value) (h : In w ok t v) (hN : cnt t ≤ 1000000000000000) :
    Calls Tryz.prog 8 #[v] w fun e w' => e = .returned (.bool (goodV t)) ∧ Below w.heap.size w w' := by
  have H := hidI h
  have HG := hidI (good_ref t)
  have hd := dpt_cnt t
  obtain ⟨a1, a2, c1, c2, rfl⟩ := h.form
  clear h
  have HN := hidI hN
  obtain ⟨x, hx⟩ : ∃ x, dpt t = x := ⟨_, rfl⟩
  obtain ⟨m, hm⟩ : ∃ m, cnt t = m := ⟨_, rfl⟩
  rw [hm] at hd hN
  rw [hx] at hd
  have X := hidI hx
  have M := hidI hm
  clear hx hm
  go_enter Tryz.func8, Tryz.ntmps8
  go_wp2_with fail
  refine (depthOf_is _ ok t _ (by exact H.out.bel (bel_alloc _ _)) HN.out).mono ?_
  rintro e w1 ⟨rfl, hb1⟩
  rw [X.out, M.out]
  have K1 : Hid (BoxIs w1 w.heap.size (.int .i64 t.kind) (.int .i64 t.n) (.string ⟨t.s.toArray⟩) (.slice a1 t.keys.length c1) (.slice a2 t.l.length c2) ∧ Below w.heap.size w w1) := hidI ⟨box_bel hb1 (heap_alloc_new w _), bel_trans (bel_alloc _ _) hb1⟩
  clear hb1
  obtain ⟨y0, y1, y2, y3, y4, -⟩ := K1.out.1.c
  by_cases h1 : x ≤ 12
  · have q1 : (x : Int) ≤ 12 := by omega
    by_cases h2 : m ≤ 120
    · have q2 : (m : Int) ≤ 120 := by omega
      have HR : Hid (goodV t = shp t) := hidI (by rw [← HG.out, X.out, M.out]; simp [h1, h2])
      clear h1 h2
      go_wp2_with fail
      refine (rshaped_is _ ok t _ (by exact H.out.bel K1.out.2)).mono ?_
      rintro e w2 ⟨rfl, hb2⟩
      have B2 := hidI (bel_trans K1.out.2 hb2)
      clear hb2
      go_wp2_with fail
      go_ret
      exact ⟨by rw [HR.out]; rfl, B2.out⟩
    · have q2 : ¬ (m : Int) ≤ 120 := by omega
      have HR : Hid (goodV t = false) := hidI (by rw [← HG.out, X.out, M.out]; simp [h2])
      clear h1 h2
      go_wp2_with fail
      go_ret
      exact ⟨by rw [HR.out]; rfl, K1.out.2⟩
  · have q1 : ¬ (x : Int) ≤ 12 := by omega
    have HR : Hid (goodV t = false) := hidI (by rw [← HG.out, X.out, M.out]; simp [h1])
    clear h1
    go_wp2_with fail
    go_ret
    exact ⟨by rw [HR.out]; rfl, K1.out.2⟩
end Go.Proofs.YtkboplcffailoaaGreatDoor
