/- What CopyValue of the reference does, so told. -/
import Derived.Test.YtkboplcffailoaaGreatDoorFc
import Derived.Test.YtkboplcffailoaaGreatDoorXz
set_option linter.unusedSimpArgs false
set_option linter.unusedVariables false
namespace Go.Proofs.YtkboplcffailoaaGreatDoor
open Go.RowKit

theorem rcopy_is (w : World) (ok : Nat → Prop) (t : V) (v : Value) (h : In w ok t v) (hN : siz t ≤ 1000000000000) :
    Calls Tryz.prog 4 #[v] w fun e w' => ∃ r, e = .returned r ∧ Below w.heap.size w w' ∧ In w' (fun k => w.heap.size ≤ k) t r := by
  obtain ⟨d, h⟩ := h
  refine (copyValue_all d w ok t v h hN).mono ?_
  rintro e w' ⟨r, rfl, hb, hr⟩
  exact ⟨r, rfl, hb, hr.is⟩
end Go.Proofs.YtkboplcffailoaaGreatDoor
