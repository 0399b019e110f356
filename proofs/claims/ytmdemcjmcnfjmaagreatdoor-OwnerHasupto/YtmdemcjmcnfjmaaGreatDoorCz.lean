/- Slices of so many cells each, and parts of a row: what Concat and Grow will say. -/
import Derived.Test.YtmdemcjmcnfjmaaGreatDoorVa
import Derived.Lib.AppendZeros
import Derived.Laws.AppendOwnNone
set_option linter.unusedSimpArgs false
set_option linter.unusedVariables false
namespace Go.Proofs.YtmdemcjmcnfjmaaGreatDoor
open Go.RowKit

/- A slice of n elements of so many cells each, and what the cells hold. -/
def SlIs (w : World) (size : Nat) (v : Value) (n : Nat) (cells : List Value) : Prop :=
  cells.length = n * size ∧ n ≤ 1000000 ∧ (∀ u ∈ cells, u.oneCell' = true) ∧ (v = .slice none 0 0 ∧ n = 0 ∨ ∃ ad c, v = .slice (some ad) n c ∧ ∀ j u, cells[j]? = some u → w.cell? (ad.add j) = some u)

theorem SlIs.below {w w' : World} {size : Nat} {v : Value} {n : Nat} {cells : List Value} (h : SlIs w size v n cells) (hb : Below w.heap.size w w') : SlIs w' size v n cells := by
  obtain ⟨h1, h2, h3, h4⟩ := h
  refine ⟨h1, h2, h3, ?_⟩
  rcases h4 with h4 | ⟨ad, c, e, hc⟩
  · exact .inl h4
  · refine .inr ⟨ad, c, e, fun j u hj => ?_⟩
    have := hc j u hj
    rw [World.cell?_of_block (hb.block _ (World.block_lt_of_cell? w _ this))]; exact this

/- A part: its slice, how many elements, what they hold. -/
structure Part where
  v : Value
  n : Nat
  cells : List Value

def sumN (ps : List Part) : Nat := (ps.map Part.n).sum
def allC (ps : List Part) : List Value := (ps.map Part.cells).flatten
theorem sumN_snoc (ps : List Part) (p : Part) : sumN (ps ++ [p]) = sumN ps + p.n := by simp [sumN]
theorem allC_snoc (ps : List Part) (p : Part) : allC (ps ++ [p]) = allC ps ++ p.cells := by simp [allC]
theorem take_snoc' {ps : List Part} {i : Nat} {p : Part} (h : ps[i]? = some p) : ps.take (i + 1) = ps.take i ++ [p] := by rw [List.take_add_one, h]; rfl
theorem sumN_take_le (ps : List Part) (i : Nat) : sumN (ps.take i) ≤ sumN ps := by
  have h : ps = ps.take i ++ ps.drop i := (List.take_append_drop i ps).symm
  have : sumN ps = sumN (ps.take i) + sumN (ps.drop i) := by
    have := congrArg sumN h
    rw [this]
    simp only [sumN, List.map_append, List.sum_append]
  omega

end Go.Proofs.YtmdemcjmcnfjmaaGreatDoor
