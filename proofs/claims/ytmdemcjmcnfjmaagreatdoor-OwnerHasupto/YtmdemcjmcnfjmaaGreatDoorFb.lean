/- A list of texts, copied: append onto nil. -/
import Derived.Test.YtmdemcjmcnfjmaaGreatDoorFp
import Derived.Maps.AppendAt
import Derived.Laws.AppendOwnNone
set_option linter.unusedSimpArgs false
set_option linter.unusedVariables false
namespace Go.Proofs.YtmdemcjmcnfjmaaGreatDoor
open Go.RowKit

theorem run_nil_nil (W : World) (ty : TypeId) : (Builtin.append_ #[22, 22] ty #[.slice none 0 0, .slice none 0 0]).run Tryz.prog W = .ok (.slice none 0 0) W := by
  obtain ⟨i0, hi, hz0, hz1, hz2⟩ := info_parts info9
  simp [Builtin.append_, run_underlying Tryz.underlying22, hi, go_sem]
theorem run_copyS (W : World) (ok : Nat → Prop) (xs : List (List UInt8)) (v : Value) (h : StrsAre W ok xs v) (hl : xs.length ≤ 8000000000000) (ty : TypeId) :
    ∃ v' W', (Builtin.append_ #[22, 22] ty #[.slice none 0 0, v]).run Tryz.prog W = .ok v' W' ∧ StrsAre W' (fun k => W.heap.size ≤ k) xs v' ∧ Below W.heap.size W W' := by
  obtain ⟨i0, hi, hz0, hz1, hz2⟩ := info_parts info9
  have hm := h.1
  have some_case : ∀ (ad : Addr) (c : Nat), (∀ j u, (xs.map str)[j]? = some u → W.cell? (ad.add j) = some u) → (∀ x ∈ xs, x.length ≤ maxLen) →
      ∃ v' W', (Builtin.append_ #[22, 22] ty #[.slice none 0 0, .slice (some ad) xs.length c]).run Tryz.prog W = .ok v' W' ∧ StrsAre W' (fun k => W.heap.size ≤ k) xs v' ∧ Below W.heap.size W W' := by
    intro ad c hc hx
    obtain ⟨v', W', hr, ho, hg, -, -⟩ := run_append_own_at (P := Tryz.prog) W W.heap.size 22 ty 9 i0 _ 1 16 Tryz.underlying22 hi hz0 hz1 hz2 rfl (by decide) (.slice none 0 0) 0 [] (World.ownsRow_nil _ _ _ _) ad xs.length c (xs.map str) (by simp) hc (by intro u hu; simp only [List.mem_map] at hu; obtain ⟨x, -, rfl⟩ := hu; rfl) (by omega) (by omega) (Nat.le_refl _)
    refine ⟨v', W', hr, own_strs (n := xs.length) rfl (by simpa using ho) hx (fun _ h => h) hm, ?_⟩
    exact gb_none (by simpa [Value.ownBlock] using hg)
  rcases h.2 with ⟨rfl, a, rfl⟩ | ⟨b, off, c, rfl, h1, h2, h3⟩
  · cases a with
    | none => exact ⟨_, _, run_nil_nil W ty, ⟨by simp, .inl ⟨rfl, none, rfl⟩⟩, Below.refl _ _⟩
    | some ad => exact some_case ad 0 (by simp) (by simp)
  · refine some_case ⟨b, off, none⟩ c ?_ ?_
    · intro j u hj
      rw [addr_add]
      simp only [List.getElem?_map, Option.map_eq_some_iff] at hj
      obtain ⟨x, hx, rfl⟩ := hj
      exact (h3 j x hx).2.2
    · intro x hx
      obtain ⟨i, hi⟩ := List.getElem?_of_mem hx
      exact (h3 i x hi).1
end Go.Proofs.YtmdemcjmcnfjmaaGreatDoor
