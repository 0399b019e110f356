/- What steps of package stairwelllaw does. -/
import Derived.Test.YtaaaogiheplbmaaHz
set_option linter.unusedSimpArgs false
set_option linter.unusedVariables false
namespace Go.Proofs.Ytaaaogiheplbmaa
open Go.RowKit

set_option maxRecDepth 100000 in
set_option maxHeartbeats 4000000 in
theorem lsteps_at (w : World) : Calls Try.prog 16 #[] w fun e w' => e = .returned (.bool true) ∧ Below w.heap.size w w' := by
  have C1 : Hid (∀ W : World, Calls Try.prog 7 #[.agg #[.string ⟨#[97]⟩, .slice none 0 0]] W fun e w' => e = .returned (.tuple #[.agg #[.string ⟨#[97]⟩, .string ⟨#[97]⟩, .int .i64 1, .int .i64 0, .int .i64 100, .int .i64 0], .int .i64 0]) ∧ Below W.heap.size W w') := hidI (fun W => by
    have h := first_at W [97] [] _ (stps_nil W) (by simp)
    rw [show firstF [97] [] = (⟨[97], [97], 1, 0, 100, 0⟩, 0) from rfl] at h
    exact h)
  have C2 : Hid (∀ (W : World) (o : Obj), Calls Try.prog 30 #[.agg #[.string ⟨#[98]⟩, .slice (some ⟨W.heap.size + 1, 0, none⟩) 2 2], .agg #[.string ⟨#[97]⟩, .string ⟨#[97]⟩, .int .i64 1, .int .i64 0, .int .i64 100, .int .i64 0], .int .i64 5, .int .i64 0] ((W.alloc o).alloc (.cells #[.int .i64 20, .int .i64 0, .int .i64 (-1), .int .i64 0] 32)) fun e w' => e = .returned (.tuple #[.agg #[.string ⟨#[97]⟩, .string ⟨#[98]⟩, .int .i64 3, .int .i64 1, .int .i64 20, .int .i64 5], .int .i64 0]) ∧ Below W.heap.size W w') := hidI (fun W o => by
    have h := next_at ((W.alloc o).alloc (.cells #[.int .i64 20, .int .i64 0, .int .i64 (-1), .int .i64 0] 32)) [98] [⟨20, 0⟩, ⟨-1, 0⟩] _ ⟨[97], [97], 1, 0, 100, 0⟩ 5 0 (stps_two W o) (by simp)
    rw [show nextF [98] [⟨20, 0⟩, ⟨-1, 0⟩] ⟨[97], [97], 1, 0, 100, 0⟩ 5 0 = (⟨[97], [98], 3, 1, 20, 5⟩, 0) from rfl] at h
    exact h.mono fun e w' k => ⟨k.1, bel_trans (bel_trans (bel_alloc _ _) (bel_alloc _ _)) k.2⟩)
  go_enter Try.func16, Try.ntmps16
  go_wp2_with (first | (go_at_call 7; refine (C1.out _).mono ?_; rintro e w1 ⟨rfl, hb1⟩) | (go_at_call 30; refine (C2.out _ _).mono ?_; rintro e w2 ⟨rfl, hb2⟩))
  go_ret
  exact ⟨rfl, bel_trans (bel_trans hb1 hb2) (bel_alloc _ _)⟩
end Go.Proofs.Ytaaaogiheplbmaa
