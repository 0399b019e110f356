/- A value is the same as itself; how deep it is; what is printed of a good one. -/
import Derived.Test.YtkmonpdppgcgaabDoorUb
import Derived.Test.YtkmonpdppgcgaabDoorTa
set_option linter.unusedSimpArgs false
set_option linter.unusedVariables false
namespace Go.Proofs.YtkmonpdppgcgaabDoor
open Go.RowKit

theorem allS_refl {f : V → V → Bool} : ∀ (l : List V), (∀ x ∈ l, f x x = true) → allS f l l = true
  | [], _ => rfl
  | x :: l, h => by rw [allS, h x (by simp), allS_refl l fun y hy => h y (by simp [hy])]; rfl
theorem vals_mem {w : World} {ok : Nat → Prop} {R : V → Value → Prop} {xs : List V} {v : Value} (h : ValsAre w ok R xs v) {x : V} (hx : x ∈ xs) : ∃ y, R x y := by
  rcases h.2 with ⟨e, _⟩ | ⟨b, off, c, e, h1, h2, h3⟩
  · rw [e] at hx; cases hx
  · obtain ⟨i, hi⟩ := List.getElem?_of_mem hx
    obtain ⟨v0, v1, v2, v3, v4, -, -, -, -, -, -, g⟩ := h3 i x hi
    exact ⟨_, g⟩
theorem sameS_refl {w : World} {ok : Nat → Prop} (d : Nat) : ∀ {t : V} {v : Value}, VIs w ok d t v → sameS d t t = true := by
  induction d with
  | zero => intro t v h; exact h.elim
  | succ d ih =>
    intro t v h
    obtain ⟨ks, ls, e, h1, h2, h3, h4, h5⟩ := h
    have := allS_refl (f := sameS d) t.l fun x hx => by obtain ⟨y, hy⟩ := vals_mem h5 hx; exact ih hy
    simp [sameS, this]
theorem ba_app (a b : List UInt8) : ByteArray.mk a.toArray ++ ByteArray.mk b.toArray = ByteArray.mk (a ++ b).toArray := by
  apply ByteArray.ext; simp
theorem bel_drewN (w : World) (n : Nat) : Below w.heap.size w (w.drewN n) := ⟨rfl, rfl, rfl, Nat.le_refl _, fun _ _ => rfl⟩

theorem VIs.dep {w : World} {ok : Nat → Prop} (d : Nat) : ∀ {t : V} {v : Value}, VIs w ok d t v → Dep d t := by
  induction d with
  | zero => intro t v h; exact h
  | succ d ih =>
    intro t v h x hx
    obtain ⟨ks, ls, e, h1, h2, h3, h4, h5⟩ := h
    obtain ⟨y, hy⟩ := vals_mem h5 hx
    exact ih hy
theorem printR_good {d : Nat} {t : V} (h : goodV t = true) : printR d t = (printS d t, 0) ∧ (printS d t).length ≤ 2000 ∨ printR d t = ([], 2) := by
  unfold printR
  rw [if_pos h]
  split
  · rename_i h1; exact .inl ⟨rfl, h1⟩
  · exact .inr rfl
end Go.Proofs.YtkmonpdppgcgaabDoor
