/- Contracts of the reference, so told: a value in memory, whatever its depth. -/
import Derived.Test.YtfbddgpekbhpfaaDoorFw
import Derived.Test.YtfbddgpekbhpfaaDoorFm
import Derived.Test.YtfbddgpekbhpfaaDoorFg
import Derived.Test.YtfbddgpekbhpfaaDoorFs
import Derived.Test.YtfbddgpekbhpfaaDoorSm
set_option linter.unusedSimpArgs false
set_option linter.unusedVariables false
namespace Go.Proofs.YtfbddgpekbhpfaaDoor
open Go.RowKit

theorem rcopy_is (w : World) (ok : Nat → Prop) (t : V) (v : Value) (h : In w ok t v) (hN : siz t ≤ 1000000000000) :
    Calls Tryd.prog 12 #[v] w fun e w' => ∃ r, e = .returned r ∧ Below w.heap.size w w' ∧ In w' (fun k => w.heap.size ≤ k) t r := by
  obtain ⟨d, h⟩ := h
  refine (copyValue_all d w ok t v h hN).mono ?_
  rintro e w' ⟨r, rfl, hb, hr⟩
  exact ⟨r, rfl, hb, hr.is⟩
theorem member_get (w : World) (ok : Nat → Prop) (t : V) (v : Value) (key : List UInt8) (h : In w ok t v) :
    Calls Tryd.prog 13 #[v, str key] w fun e w' => ∃ x, e = .returned (.tuple #[x, .bool (memV t key).isSome]) ∧ Below w.heap.size w w' ∧ In w' ok ((memV t key).getD zeroT) x := by
  obtain ⟨d, h⟩ := h
  refine (member_at w ok d t v key h).mono ?_
  rintro e w' ⟨x, b, rfl, hb, hm⟩
  cases hq : memV t key with
  | none => rw [hq] at hm; rw [hm.1, hm.2]; exact ⟨_, rfl, hb, in_zero w' ok⟩
  | some y => rw [hq] at hm; rw [hm.1]; exact ⟨x, rfl, hb, hm.2.is⟩
open Classical in
theorem same_dec (w : World) (ok ok' : Nat → Prop) (a b : V) (va vb : Value) (ha : In w ok a va) (hb : In w ok' b vb) (hN : cnt a ≤ 2000000000000) :
    Calls Tryd.prog 15 #[va, vb] w fun e w' => e = .returned (.bool (decide (a = b))) ∧ Below w.heap.size w w' := by
  refine (same_run w ok ok' a b va vb ha hb hN).mono ?_
  rintro e w' ⟨r, rfl, hr, hb⟩
  refine ⟨?_, hb⟩
  congr 2
  rw [Bool.eq_iff_iff, hr]; simp
end Go.Proofs.YtfbddgpekbhpfaaDoor
