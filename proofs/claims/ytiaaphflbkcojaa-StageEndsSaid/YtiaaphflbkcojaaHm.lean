/- The rounds of the law StageEnds, plainly. -/
import Derived.Test.YtiaaphflbkcojaaHi
set_option linter.unusedSimpArgs false
set_option linter.unusedVariables false
namespace Go.Proofs.Ytiaaphflbkcojaa
open Go.RowKit

def EndR (g : List UInt8) (l : List Stp) (t : Sta) (now : Int) (k : Nat) (s : Sta) (m : Int) : Prop :=
  m = now + (k : Int) * 1073741824 ∧ (k = 0 ∧ s = t ∨ 1 ≤ k ∧ specOk g l = true ∧ EndI g l k s m)
theorem ends_round {g : List UInt8} {l : List Stp} {t s : Sta} {now m : Int} {k : Nat} (hp : PauseOk l) (h0 : 0 ≤ now) (h1 : now ≤ 274877906944) (hs : t.si ≤ now) (ha : ¬ (t.ph = 4 ∧ t.c = g)) (hk : k < 10) (h : EndR g l t now k s m) :
    ((nextF g l s m 0).2 ≠ 0 ∧ (staOk s = false ∨ specOk g l = false)) ∨ ((nextF g l s m 0).2 = 0 ∧ EndR g l t now (k + 1) (nextF g l s m 0).1 (m + 1073741824)) := by
  obtain ⟨hm, h⟩ := h
  have b1 : 0 ≤ m := by omega
  have b2 : m ≤ 1099511627776 := by omega
  rcases h with ⟨k0, e⟩ | ⟨k1, h2, h3⟩
  · subst e
    subst k0
    by_cases e : (nextF g l s m 0).2 = 0
    · obtain ⟨j1, j2⟩ := ends_first e (by omega) ha
      exact .inr ⟨e, by omega, .inr ⟨by omega, j1, j2⟩⟩
    · exact .inl ⟨e, ends_bad b1 b2 e⟩
  · obtain ⟨j1, j2⟩ := ends_step h2 hp b1 b2 h3
    exact .inr ⟨j1, by omega, .inr ⟨by omega, h2, j2⟩⟩
theorem ends_out {g : List UInt8} {l : List Stp} {t s : Sta} {now m : Int} (h : EndR g l t now 10 s m) : s = healthyS g := by
  obtain ⟨-, ⟨h, _⟩ | ⟨_, h2, h3⟩⟩ := h
  · cases h
  · exact ends_last h2 h3
end Go.Proofs.Ytiaaphflbkcojaa
