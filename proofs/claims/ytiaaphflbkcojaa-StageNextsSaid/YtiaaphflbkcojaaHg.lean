/- What steps of package stairwellkeep does. -/
import Derived.Test.YtiaaphflbkcojaaHf
set_option linter.unusedSimpArgs false
set_option linter.unusedVariables false
namespace Go.Proofs.Ytiaaphflbkcojaa
open Go.RowKit

theorem stps_nil (w : World) : StpsAre w [] (.slice none 0 0) := ⟨by simp, .inl ⟨rfl, none, rfl⟩⟩
theorem cells_at {W : World} {b : Nat} {c : Array Value} {t : TypeId} {f : Nat × Nat} (h : W.heap[b]? = some (.cells c t f)) (i : Nat) : W.cell? ⟨b, i, none⟩ = c[i]? := by
  simp [World.cell?, h]
theorem stps_two (w : World) (o : Obj) : StpsAre ((w.alloc o).alloc (.cells #[.int .i64 20, .int .i64 0, .int .i64 (-1), .int .i64 0] 34)) [⟨20, 0⟩, ⟨-1, 0⟩] (.slice (some ⟨w.heap.size + 1, 0, none⟩) 2 2) := by
  have h := h2b w o (.cells #[.int .i64 20, .int .i64 0, .int .i64 (-1), .int .i64 0] 34)
  refine ⟨by simp, .inr ⟨_, _, _, rfl, by simp, by simp, fun i x hx => ?_⟩⟩
  match i, hx with
  | 0, hx => simp at hx; subst hx; exact ⟨cells_at h _, cells_at h _⟩
  | 1, hx => simp at hx; subst hx; exact ⟨cells_at h _, cells_at h _⟩
  | k + 2, hx => simp at hx
set_option maxRecDepth 100000 in
set_option maxHeartbeats 4000000 in
theorem ksteps_at (w : World) : Calls Try.prog 11 #[] w fun e w' => e = .returned (.bool true) ∧ Below w.heap.size w w' := by
  have C1 : Hid (∀ W : World, Calls Try.prog 22 #[.agg #[.string ⟨#[97]⟩, .slice none 0 0]] W fun e w' => e = .returned (.tuple #[.agg #[.string ⟨#[97]⟩, .string ⟨#[97]⟩, .int .i64 1, .int .i64 0, .int .i64 100, .int .i64 0], .int .i64 0]) ∧ Below W.heap.size W w') := hidI (fun W => by
    have h := first_at W [97] [] _ (stps_nil W) (by simp)
    rw [show firstF [97] [] = (⟨[97], [97], 1, 0, 100, 0⟩, 0) from rfl] at h
    exact h)
  have C2 : Hid (∀ (W : World) (o : Obj), Calls Try.prog 8 #[.agg #[.string ⟨#[98]⟩, .slice (some ⟨W.heap.size + 1, 0, none⟩) 2 2], .agg #[.string ⟨#[97]⟩, .string ⟨#[97]⟩, .int .i64 1, .int .i64 0, .int .i64 100, .int .i64 0], .int .i64 5, .int .i64 0] ((W.alloc o).alloc (.cells #[.int .i64 20, .int .i64 0, .int .i64 (-1), .int .i64 0] 34)) fun e w' => e = .returned (.tuple #[.agg #[.string ⟨#[97]⟩, .string ⟨#[98]⟩, .int .i64 3, .int .i64 1, .int .i64 20, .int .i64 5], .int .i64 0]) ∧ Below W.heap.size W w') := hidI (fun W o => by
    have h := next_at ((W.alloc o).alloc (.cells #[.int .i64 20, .int .i64 0, .int .i64 (-1), .int .i64 0] 34)) [98] [⟨20, 0⟩, ⟨-1, 0⟩] _ ⟨[97], [97], 1, 0, 100, 0⟩ 5 0 (stps_two W o) (by simp)
    rw [show nextF [98] [⟨20, 0⟩, ⟨-1, 0⟩] ⟨[97], [97], 1, 0, 100, 0⟩ 5 0 = (⟨[97], [98], 3, 1, 20, 5⟩, 0) from rfl] at h
    exact h.mono fun e w' k => ⟨k.1, bel_trans (bel_trans (bel_alloc _ _) (bel_alloc _ _)) k.2⟩)
  go_enter Try.func11, Try.ntmps11
  go_wp2_with (first | (go_at_call 22; refine (C1.out _).mono ?_; rintro e w1 ⟨rfl, hb1⟩) | (go_at_call 8; refine (C2.out _ _).mono ?_; rintro e w2 ⟨rfl, hb2⟩))
  go_ret
  exact ⟨rfl, bel_trans (bel_trans hb1 hb2) (bel_alloc _ _)⟩
end Go.Proofs.Ytiaaphflbkcojaa
