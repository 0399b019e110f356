/- What shaped of package json does. -/
import Derived.Test.YtmdemcjmcnfjmaaGreatDoorGa
set_option linter.unusedSimpArgs false
set_option linter.unusedVariables false
namespace Go.Proofs.YtmdemcjmcnfjmaaGreatDoor
open Go.RowKit

set_option maxRecDepth 100000 in
set_option maxHeartbeats 4000000 in
theorem shaped_at (w : World) (ok : Nat → Prop) (d : Nat) (t : V) (v : Value) (h : VIs w ok d t v) :
    Calls Tryz.prog 70 #[v] w fun e w' => e = .returned (.bool (shapedB t)) ∧ Below w.heap.size w w' := by
  have H := hidI h
  match d, h with
  | d + 1, h =>
    obtain ⟨ks, ls, rfl, h1, h2, h3, h4, h5⟩ := h
    have K4 := hidI h4
    have HS := hidI h3
    obtain ⟨a1, c1, rfl⟩ := h4.form
    obtain ⟨a2, c2, rfl⟩ := h5.form
    have l1 := h4.1
    have l2 := h5.1
    unfold maxLen at l1 l2 h3
    unfold str
    clear h4 h5 h1 h2
    by_cases k0 : t.kind = 0
    · have e0 : (t.kind == 0) = true := by simp [k0]
      have K := hidI k0
      clear k0
      go_enter Tryz.func70, Tryz.ntmps70
      go_wp2_with (go_at_call 111; refine (listless_raw _ _ _ _ _ _ _ _ _ _ l1 l2).mono ?_; rintro e w1 ⟨rfl, hb1⟩)
      all_goals
        go_ret
        have kk := K.out
        refine ⟨?_, ?_⟩
        · (simp_all [shapedB, listlessB]) <;> (intros; omega)
        · first | exact bel_trans (bel_alloc _ _) (by assumption) | exact bel_alloc _ _
    by_cases k1 : t.kind = 1
    · have e1 : (t.kind == 1) = true := by simp [k1]
      have f0 : (t.kind == 0) = false := by simp [k1]
      have K := hidI k1
      clear k1
      go_enter Tryz.func70, Tryz.ntmps70
      go_wp2_with (go_at_call 111; refine (listless_raw _ _ _ _ _ _ _ _ _ _ l1 l2).mono ?_; rintro e w1 ⟨rfl, hb1⟩)
      all_goals
        go_ret
        have kk := K.out
        refine ⟨?_, ?_⟩
        · (simp_all [shapedB, listlessB]) <;> (intros; omega)
        · first | exact bel_trans (bel_alloc _ _) (by assumption) | exact bel_alloc _ _
    by_cases k2 : t.kind = 2
    · have e2 : (t.kind == 2) = true := by simp [k2]
      have f0 : (t.kind == 0) = false := by simp [k2]
      have f1 : (t.kind == 1) = false := by simp [k2]
      have K := hidI k2
      clear k2
      go_enter Tryz.func70, Tryz.ntmps70
      go_wp2_with (go_at_call 111; refine (listless_raw _ _ _ _ _ _ _ _ _ _ l1 l2).mono ?_; rintro e w1 ⟨rfl, hb1⟩)
      all_goals
        go_ret
        have kk := K.out
        refine ⟨?_, ?_⟩
        · (simp_all [shapedB, listlessB]) <;> (intros; omega)
        · first | exact bel_trans (bel_alloc _ _) (by assumption) | exact bel_alloc _ _
    by_cases k3 : t.kind = 3
    · have e3 : (t.kind == 3) = true := by simp [k3]
      have f0 : (t.kind == 0) = false := by simp [k3]
      have f1 : (t.kind == 1) = false := by simp [k3]
      have f2 : (t.kind == 2) = false := by simp [k3]
      have K := hidI k3
      clear k3
      go_enter Tryz.func70, Tryz.ntmps70
      go_wp2_with (first | (go_at_call 112; refine (plain_at _ t.s HS.out).mono ?_; rintro e w1 ⟨rfl, rfl⟩) | (go_at_call 111; refine (listless_raw _ _ _ _ _ _ _ _ _ _ l1 l2).mono ?_; rintro e w1 ⟨rfl, hb1⟩))
      all_goals
        go_ret
        have kk := K.out
        refine ⟨?_, ?_⟩
        · (simp_all [shapedB, listlessB]) <;> (intros; omega)
        · first | exact bel_trans (bel_alloc _ _) (by assumption) | exact bel_alloc _ _
    by_cases k4 : t.kind = 4
    · have e4 : (t.kind == 4) = true := by simp [k4]
      have f0 : (t.kind == 0) = false := by simp [k4]
      have f1 : (t.kind == 1) = false := by simp [k4]
      have f2 : (t.kind == 2) = false := by simp [k4]
      have f3 : (t.kind == 3) = false := by simp [k4]
      have K := hidI k4
      clear k4
      by_cases hl : t.keys.length = 0
      · have hlb : ((t.keys.length : Int) == 0) = true := by simp [hl]
        have HL := hidI hl
        clear hl
        go_enter Tryz.func70, Tryz.ntmps70
        go_wp2_with fail
        all_goals
          go_ret
          have kk := K.out
          have hl := HL.out
          refine ⟨?_, ?_⟩
          · simp_all [shapedB, listlessB]
          · first | exact bel_trans (bel_alloc _ _) (by assumption) | exact bel_alloc _ _
      · have hlb : ((t.keys.length : Int) == 0) = false := by rw [beq_eq_false_iff_ne]; omega
        have HL := hidI hl
        clear hl
        go_enter Tryz.func70, Tryz.ntmps70
        go_wp2_with fail
        all_goals
          go_ret
          have kk := K.out
          have hl := HL.out
          refine ⟨?_, ?_⟩
          · simp_all [shapedB, listlessB]
          · first | exact bel_trans (bel_alloc _ _) (by assumption) | exact bel_alloc _ _
    by_cases k5 : t.kind = 5
    · have e5 : (t.kind == 5) = true := by simp [k5]
      have f0 : (t.kind == 0) = false := by simp [k5]
      have f1 : (t.kind == 1) = false := by simp [k5]
      have f2 : (t.kind == 2) = false := by simp [k5]
      have f3 : (t.kind == 3) = false := by simp [k5]
      have f4 : (t.kind == 4) = false := by simp [k5]
      have K := hidI k5
      clear k5
      by_cases hl : t.keys.length = t.l.length
      · have hlb : ((t.keys.length : Int) == (t.l.length : Int)) = true := by simp [hl]
        have HL := hidI hl
        clear hl
        go_enter Tryz.func70, Tryz.ntmps70
        go_wp2_with (go_at_call 113; refine (rising_at _ ok t.keys _ (by exact K4.out.bel (bel_alloc _ _))).mono ?_; rintro e w1 ⟨rfl, rfl⟩)
        all_goals
          go_ret
          have kk := K.out
          have hl := HL.out
          refine ⟨?_, ?_⟩
          · simp_all [shapedB, listlessB]
          · first | exact bel_trans (bel_alloc _ _) (by assumption) | exact bel_alloc _ _
      · have hlb : ((t.keys.length : Int) == (t.l.length : Int)) = false := by rw [beq_eq_false_iff_ne]; omega
        have HL := hidI hl
        clear hl
        go_enter Tryz.func70, Tryz.ntmps70
        go_wp2_with fail
        all_goals
          go_ret
          have kk := K.out
          have hl := HL.out
          refine ⟨?_, ?_⟩
          · simp_all [shapedB, listlessB]
          · first | exact bel_trans (bel_alloc _ _) (by assumption) | exact bel_alloc _ _
    · have g0 : (t.kind == 0) = false := by simp [k0]
      have g1 : (t.kind == 1) = false := by simp [k1]
      have g2 : (t.kind == 2) = false := by simp [k2]
      have g3 : (t.kind == 3) = false := by simp [k3]
      have g4 : (t.kind == 4) = false := by simp [k4]
      have g5 : (t.kind == 5) = false := by simp [k5]
      have F : Hid (shapedB t = false) := hidI (by simp [shapedB, k0, k1, k2, k3, k4, k5])
      clear k0 k1 k2 k3 k4 k5
      go_enter Tryz.func70, Tryz.ntmps70
      go_wp2_with fail
      go_ret
      exact ⟨by rw [F.out]; rfl, bel_alloc _ _⟩
end Go.Proofs.YtmdemcjmcnfjmaaGreatDoor
