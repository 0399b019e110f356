/- Helpers for With and Without of package json. -/
import Derived.Test.YtkboplcffailoaaDoorCy
import Derived.Test.YtkboplcffailoaaDoorCa
set_option linter.unusedSimpArgs false
set_option linter.unusedVariables false
namespace Go.Proofs.YtkboplcffailoaaDoor
open Go.RowKit

theorem concatV3 (w : World) (b : Nat) (p1 p2 p3 : Part) (q1 : w.cell? ⟨b, 0, none⟩ = some p1.v) (q2 : w.cell? ⟨b, 1, none⟩ = some p2.v) (q3 : w.cell? ⟨b, 2, none⟩ = some p3.v)
    (s1 : SlIs w 5 p1.v p1.n p1.cells) (s2 : SlIs w 5 p2.v p2.n p2.cells) (s3 : SlIs w 5 p3.v p3.n p3.cells) (hn : p1.n + p2.n + p3.n ≤ 1000000) :
    Calls Tryd.prog 67 #[.slice (some ⟨b, 0, none⟩) 3 3] w fun e w' => ∃ v, e = .returned v ∧ w'.ownsRow w.heap.size 25 5 v (p1.n + p2.n + p3.n) (p1.cells ++ p2.cells ++ p3.cells) ∧ Below w.heap.size w w' := by
  refine (concatV w b 0 3 [p1, p2, p3] ?_ (by simp [sumN]; omega) (by simp) (by simp)).mono ?_
  · intro i p hp
    match i, hp with
    | 0, hp => simp at hp; subst hp; exact ⟨q1, s1⟩
    | 1, hp => simp at hp; subst hp; exact ⟨q2, s2⟩
    | 2, hp => simp at hp; subst hp; exact ⟨q3, s3⟩
  · rintro e w' ⟨v, rfl, h1, h2⟩
    refine ⟨v, rfl, ?_, h2⟩
    have e1 : sumN [p1, p2, p3] = p1.n + p2.n + p3.n := by simp [sumN]; omega
    have e2 : allC [p1, p2, p3] = p1.cells ++ p2.cells ++ p3.cells := by simp [allC]
    rw [e1, e2] at h1; exact h1
theorem concatS3 (w : World) (b : Nat) (p1 p2 p3 : Part) (q1 : w.cell? ⟨b, 0, none⟩ = some p1.v) (q2 : w.cell? ⟨b, 1, none⟩ = some p2.v) (q3 : w.cell? ⟨b, 2, none⟩ = some p3.v)
    (s1 : SlIs w 1 p1.v p1.n p1.cells) (s2 : SlIs w 1 p2.v p2.n p2.cells) (s3 : SlIs w 1 p3.v p3.n p3.cells) (hn : p1.n + p2.n + p3.n ≤ 1000000) :
    Calls Tryd.prog 68 #[.slice (some ⟨b, 0, none⟩) 3 3] w fun e w' => ∃ v, e = .returned v ∧ w'.ownsRow w.heap.size 9 1 v (p1.n + p2.n + p3.n) (p1.cells ++ p2.cells ++ p3.cells) ∧ Below w.heap.size w w' := by
  refine (concatS w b 0 3 [p1, p2, p3] ?_ (by simp [sumN]; omega) (by simp) (by simp)).mono ?_
  · intro i p hp
    match i, hp with
    | 0, hp => simp at hp; subst hp; exact ⟨q1, s1⟩
    | 1, hp => simp at hp; subst hp; exact ⟨q2, s2⟩
    | 2, hp => simp at hp; subst hp; exact ⟨q3, s3⟩
  · rintro e w' ⟨v, rfl, h1, h2⟩
    refine ⟨v, rfl, ?_, h2⟩
    have e1 : sumN [p1, p2, p3] = p1.n + p2.n + p3.n := by simp [sumN]; omega
    have e2 : allC [p1, p2, p3] = p1.cells ++ p2.cells ++ p3.cells := by simp [allC]
    rw [e1, e2] at h1; exact h1

end Go.Proofs.YtkboplcffailoaaDoor
