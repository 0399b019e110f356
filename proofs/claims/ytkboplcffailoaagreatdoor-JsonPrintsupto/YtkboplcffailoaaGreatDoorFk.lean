/- What shaped of package stairwellref does, of every kind. -/
import Derived.Test.YtkboplcffailoaaGreatDoorFi
import Derived.Test.YtkboplcffailoaaGreatDoorFj
set_option linter.unusedSimpArgs false
set_option linter.unusedVariables false
namespace Go.Proofs.YtkboplcffailoaaGreatDoor
open Go.RowKit

theorem rshaped_all (d : Nat) : ShpC d := by
  induction d with
  | zero => exact fun _ _ _ _ h => h.elim
  | succ d ih =>
    intro w ok t v h
    by_cases h0 : t.kind = 0
    · exact rshaped_k0 d ih w ok t v h h0
    by_cases h1 : t.kind = 1
    · exact rshaped_k1 d ih w ok t v h h1
    by_cases h2 : t.kind = 2
    · exact rshaped_k2 d ih w ok t v h h2
    by_cases h3 : t.kind = 3
    · exact rshaped_k3 d ih w ok t v h h3
    by_cases h4 : t.kind = 4
    · exact rshaped_k4 d ih w ok t v h h4
    by_cases h5 : t.kind = 5
    · exact rshaped_k5 d ih w ok t v h h5
    exact rshaped_k6 d ih w ok t v h ⟨h0, h1, h2, h3, h4, h5⟩
end Go.Proofs.YtkboplcffailoaaGreatDoor
