/- Owners in memory. -/
import Derived.Test.YtmdemcjmcnfjmaaGreatDoorXz
import Derived.Test.YtmdemcjmcnfjmaaGreatDoorOp
set_option linter.unusedSimpArgs false
set_option linter.unusedVariables false
namespace Go.Proofs.YtmdemcjmcnfjmaaGreatDoor
open Go.RowKit

/- A list of owners, of two cells each, in blocks that ok lets. -/
def OwnsAre (w : World) (ok : Nat → Prop) (xs : List Own) (v : Value) : Prop :=
  xs.length ≤ maxLen ∧ (xs = [] ∧ (∃ a, v = .slice a 0 0) ∨ ∃ b off c, v = .slice (some ⟨b, off, none⟩) xs.length c ∧ xs.length ≤ c ∧ c ≤ maxLen ∧
    ∀ i x, xs[i]? = some x → ∃ a n c', x.name.length ≤ maxLen ∧ ok b ∧ w.cell? ⟨b, off + i * 2, none⟩ = some (str x.name) ∧ w.cell? ⟨b, off + i * 2 + 1, none⟩ = some (.slice a n c') ∧ StrsAre w ok x.paths (.slice a n c'))
theorem OwnsAre.imp {w w' : World} {ok ok' : Nat → Prop} {xs : List Own} {v : Value} (h : OwnsAre w ok xs v)
    (hc : ∀ a x, ok a.block → w.cell? a = some x → ok' a.block ∧ w'.cell? a = some x) : OwnsAre w' ok' xs v := by
  refine ⟨h.1, ?_⟩
  rcases h.2 with h | ⟨b, off, c, e, h1, h2, h3⟩
  · exact .inl h
  · refine .inr ⟨b, off, c, e, h1, h2, fun i x hx => ?_⟩
    obtain ⟨a, n, c', g1, g2, g3, g4, g5⟩ := h3 i x hx
    exact ⟨a, n, c', g1, (hc ⟨b, off + i * 2, none⟩ _ g2 g3).1, (hc ⟨b, off + i * 2, none⟩ _ g2 g3).2, (hc ⟨b, off + i * 2 + 1, none⟩ _ g2 g4).2, g5.imp hc⟩
theorem OwnsAre.bel {w w' : World} {ok : Nat → Prop} {xs : List Own} {v : Value} (h : OwnsAre w ok xs v) (hb : Below w.heap.size w w') : OwnsAre w' ok xs v :=
  h.imp fun a x h1 h2 => ⟨h1, cell_bel hb h2⟩
theorem OwnsAre.low {w : World} {ok : Nat → Prop} {xs : List Own} {v : Value} (h : OwnsAre w ok xs v) : OwnsAre w (fun k => ok k ∧ k < w.heap.size) xs v :=
  h.imp fun a x h1 h2 => ⟨⟨h1, World.block_lt_of_cell? w a h2⟩, h2⟩
theorem OwnsAre.weak {w : World} {ok ok' : Nat → Prop} {xs : List Own} {v : Value} (h : OwnsAre w ok xs v) (hk : ∀ k, ok k → ok' k) : OwnsAre w ok' xs v :=
  h.imp fun a x h1 h2 => ⟨hk _ h1, h2⟩
theorem OwnsAre.form {w : World} {ok : Nat → Prop} {xs : List Own} {v : Value} (h : OwnsAre w ok xs v) : ∃ a c, v = .slice a xs.length c := by
  rcases h.2 with ⟨rfl, a, rfl⟩ | ⟨b, off, c, rfl, -⟩
  · exact ⟨a, 0, rfl⟩
  · exact ⟨_, _, rfl⟩
theorem OwnsAre.at {w : World} {ok : Nat → Prop} {xs : List Own} {a : Option Addr} {n c k : Nat} (h : OwnsAre w ok xs (.slice a n c)) (hk : k < xs.length) :
    ∃ b off pa pc, a = some ⟨b, off, none⟩ ∧ xs.length ≤ c ∧ c ≤ 9223372036854775807 ∧ w.cell? ⟨b, off + k * 2, none⟩ = some (.string ⟨xs[k].name.toArray⟩) ∧ w.cell? ⟨b, off + k * 2 + 1, none⟩ = some (.slice pa xs[k].paths.length pc) ∧
      StrsAre w ok xs[k].paths (.slice pa xs[k].paths.length pc) ∧ xs[k].name.length ≤ 9223372036854775807 := by
  rcases h.2 with ⟨e, _⟩ | ⟨b, off, c', e, h1, h2, h3⟩
  · rw [e] at hk; simp at hk
  · simp only [Value.slice.injEq] at e
    obtain ⟨rfl, -, rfl⟩ := e
    obtain ⟨a, n, c', g1, g2, g3, g4, g5⟩ := h3 k xs[k] (List.getElem?_eq_getElem hk)
    obtain ⟨a9, c9, e9⟩ := g5.form
    simp only [Value.slice.injEq] at e9
    obtain ⟨rfl, rfl, rfl⟩ := e9
    exact ⟨b, off, a, c', rfl, h1, h2, g3, g4, g5, g1⟩
theorem OwnsAre.nil (w : World) (ok : Nat → Prop) : OwnsAre w ok [] (.slice none 0 0) := ⟨by simp, .inl ⟨rfl, none, rfl⟩⟩

/- A box of one owner. -/
theorem box2 {w : World} {g : Nat} {a b : Value} {t : TypeId} (h : w.heap[g]? = some (.cells #[a, b] t)) : w.cell? ⟨g, 0, none⟩ = some a ∧ w.cell? ⟨g, 1, none⟩ = some b := by
  refine ⟨?_, ?_⟩ <;> simp [World.cell?, h]
/- Texts that rise, one by one. -/
theorem rises_take {xs : List (List UInt8)} {j : Nat} (h : j + 1 < xs.length) : risesB (xs.take (j + 2)) = (risesB (xs.take (j + 1)) && Op.bytesLess xs[j] xs[j + 1]) := by
  rw [Bool.eq_iff_iff, Bool.and_eq_true, rises_at, rises_at]
  constructor
  · intro h9
    refine ⟨fun i x y hx hy => h9 i x y ?_ ?_, h9 j _ _ ?_ ?_⟩
    · rw [List.getElem?_take] at hx ⊢; split at hx; rw [if_pos (by omega)]; exact hx; cases hx
    · rw [List.getElem?_take] at hy ⊢; split at hy; rw [if_pos (by omega)]; exact hy; cases hy
    · rw [List.getElem?_take, if_pos (by omega)]; exact List.getElem?_eq_getElem (by omega)
    · rw [List.getElem?_take, if_pos (by omega)]; exact List.getElem?_eq_getElem h
  · rintro ⟨h1, h2⟩ i x y hx hy
    by_cases e : i = j
    · subst e
      rw [List.getElem?_take, if_pos (by omega), List.getElem?_eq_getElem (by omega)] at hx
      rw [List.getElem?_take, if_pos (by omega), List.getElem?_eq_getElem h] at hy
      cases hx; cases hy; exact h2
    · refine h1 i x y ?_ ?_
      · rw [List.getElem?_take] at hx hy ⊢; split at hy <;> split at hx <;> (try cases hy) <;> (try cases hx); rw [if_pos (by omega)]; assumption
      · rw [List.getElem?_take] at hy ⊢; split at hy <;> (try cases hy); rw [if_pos (by omega)]; assumption
theorem rises_one (xs : List (List UInt8)) : risesB (xs.take 1) = true := by
  cases xs with
  | nil => rfl
  | cons a r => rfl
theorem gps_badP {xs : List (List UInt8)} {k : Nat} (hk : k < xs.length) (h : gpB xs[k] = false) : gpsB xs = false := by
  have : xs.all gpB = false := by rw [List.all_eq_false]; exact ⟨xs[k], List.getElem_mem _, by simp [h]⟩
  simp [gpsB, this]
theorem rises_bad {xs : List (List UInt8)} {j : Nat} (hj : j + 1 < xs.length) (h : Op.bytesLess xs[j] xs[j + 1] = false) : risesB xs = false := by
  rw [Bool.eq_false_iff]
  intro h9
  rw [rises_at] at h9
  have := h9 j _ _ (List.getElem?_eq_getElem (by omega)) (List.getElem?_eq_getElem hj)
  rw [h] at this; cases this
theorem gps_badR {xs : List (List UInt8)} {j : Nat} (hj : j + 1 < xs.length) (h : Op.bytesLess xs[j] xs[j + 1] = false) : gpsB xs = false := by
  simp [gpsB, rises_bad hj h]
theorem all_take {α : Type} {p : α → Bool} {xs : List α} {k : Nat} (hk : k < xs.length) (h : (xs.take k).all p = true) (h2 : p xs[k] = true) : (xs.take (k + 1)).all p = true := by
  rw [List.take_succ_eq_append_getElem hk, List.all_append, h]; simp [h2]
end Go.Proofs.YtmdemcjmcnfjmaaGreatDoor
