/- Two lists of steps. -/
import Derived.Test.YtaaaogiheplbmaaHf
set_option linter.unusedSimpArgs false
set_option linter.unusedVariables false
namespace Go.Proofs.Ytaaaogiheplbmaa
open Go.RowKit

theorem stps_nil (w : World) : StpsAre w [] (.slice none 0 0) := ⟨by simp, .inl ⟨rfl, none, rfl⟩⟩
theorem cells_at {W : World} {b : Nat} {c : Array Value} {t : TypeId} {f : Nat × Nat} (h : W.heap[b]? = some (.cells c t f)) (i : Nat) : W.cell? ⟨b, i, none⟩ = c[i]? := by
  simp [World.cell?, h]
theorem stps_two (w : World) (o : Obj) : StpsAre ((w.alloc o).alloc (.cells #[.int .i64 20, .int .i64 0, .int .i64 (-1), .int .i64 0] 32)) [⟨20, 0⟩, ⟨-1, 0⟩] (.slice (some ⟨w.heap.size + 1, 0, none⟩) 2 2) := by
  have h := h2b w o (.cells #[.int .i64 20, .int .i64 0, .int .i64 (-1), .int .i64 0] 32)
  refine ⟨by simp, .inr ⟨_, _, _, rfl, by simp, by simp, fun i x hx => ?_⟩⟩
  match i, hx with
  | 0, hx => simp at hx; subst hx; exact ⟨cells_at h _, cells_at h _⟩
  | 1, hx => simp at hx; subst hx; exact ⟨cells_at h _, cells_at h _⟩
  | k + 2, hx => simp at hx
end Go.Proofs.Ytaaaogiheplbmaa
