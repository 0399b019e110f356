/- Digits, plainly: what decimal of the reference makes of a number; when a name is a number. -/
import Derived.Test.YtkboplcffailoaaGreatDoorXp
set_option linter.unusedSimpArgs false
set_option linter.unusedVariables false
namespace Go.Proofs.YtkboplcffailoaaGreatDoor
open Go.RowKit
/- A number's digits, as decimal of the reference has them. -/
def decS (n : Nat) : List UInt8 := if h : n < 10 then [UInt8.ofNat (48 + n)] else decS (n / 10) ++ [UInt8.ofNat (48 + n % 10)]
theorem decS_small {n : Nat} (h : n < 10) : decS n = [UInt8.ofNat (48 + n)] := by rw [decS, dif_pos h]
theorem decS_big {n : Nat} (h : 10 ≤ n) : decS n = decS (n / 10) ++ [UInt8.ofNat (48 + n % 10)] := by rw [decS, dif_neg (by omega)]
theorem decS_parts {n : Nat} (h : 10 ≤ n) : decS n = decS (n / 10) ++ decS (n % 10) := by rw [decS_big h, decS_small (n := n % 10) (by omega)]
theorem dig_nat {d : Nat} (h : d < 10) : (UInt8.ofNat (48 + d)).toNat = 48 + d := by rw [UInt8.toNat_ofNat']; omega
theorem head_app {a b : List UInt8} (h : a ≠ []) : (a ++ b).head? = a.head? := by cases a with | nil => exact absurd rfl h | cons x a => rfl
theorem numF_append (s t : List UInt8) : ∀ (a : Nat), numF a (s ++ t) = (numF a s).bind fun b => numF b t := by
  induction s with
  | nil => intro a; rfl
  | cons c s ih =>
    intro a
    rw [List.cons_append, numF, numF]
    split
    · exact ih _
    · rfl
theorem numF_dec (n : Nat) : numF 0 (decS n) = some n := by
  induction n using Nat.strongRecOn with
  | _ n ih =>
    by_cases h : n < 10
    · rw [decS_small h]
      simp only [numF, dig_nat h]
      rw [if_pos (by omega)]
      simp
    · rw [decS_big (by omega), numF_append, ih (n / 10) (by omega)]
      simp only [Option.bind_some, numF, dig_nat (show n % 10 < 10 by omega)]
      rw [if_pos (by omega)]
      congr 1
      omega
theorem dec_ne_nil (n : Nat) : decS n ≠ [] := by
  by_cases h : n < 10
  · rw [decS_small h]; simp
  · rw [decS_big (by omega)]; simp
theorem dec_head (n : Nat) (hn : 0 < n) : (decS n).head? ≠ some 48 := by
  induction n using Nat.strongRecOn with
  | _ n ih =>
    by_cases h : n < 10
    · rw [decS_small h]
      simp only [List.head?_cons, ne_eq, Option.some.injEq]
      intro e
      have := congrArg UInt8.toNat e
      rw [dig_nat h] at this
      simp at this
      omega
    · rw [decS_big (by omega), head_app (dec_ne_nil _)]
      exact ih (n / 10) (by omega) (by omega)
theorem dec_len {n : Nat} : ∀ (d : Nat), n < 10 ^ (d + 1) → (decS n).length ≤ d + 1 := by
  intro d
  induction d generalizing n with
  | zero => intro h; rw [decS_small (by simpa using h)]; simp
  | succ d ih =>
    intro h
    by_cases h0 : n < 10
    · rw [decS_small h0]; simp
    · rw [decS_big (by omega), List.length_append]
      have := ih (n := n / 10) (by rw [Nat.pow_succ] at h; omega)
      simp; omega
theorem num_dec {n : Nat} (h : n ≤ 9999) : numP (decS n) = some n := by
  unfold numP
  rw [if_neg, numF_dec]
  rintro (h1 | h1 | ⟨h1, h2⟩)
  · exact dec_ne_nil n h1
  · have := dec_len (n := n) 3 (by omega); omega
  · by_cases h0 : n = 0
    · subst h0; exact h2 (by rw [decS_small (by omega)]; rfl)
    · exact dec_head n (by omega) h1
theorem numF_pos (s : List UInt8) : ∀ (a m : Nat), 0 < a → numF a s = some m → 0 < m := by
  induction s with
  | nil => intro a m h e; simp [numF] at e; omega
  | cons c s ih =>
    intro a m h e
    rw [numF] at e
    split at e
    · exact ih _ m (by omega) e
    · cases e
theorem num_some (s : List UInt8) (hs : s ≠ []) : ∀ (k : Nat), numF 0 s = some k → (s.head? = some 48 → s = [48]) → s = decS k := by
  obtain ⟨n, hn⟩ : ∃ n, s.length = n := ⟨_, rfl⟩
  induction n generalizing s with
  | zero => exact absurd (List.eq_nil_of_length_eq_zero hn) hs
  | succ n ih =>
    intro k hk hz
    obtain ⟨t, c, rfl⟩ : ∃ t c, s = t ++ [c] := ⟨s.dropLast, s.getLast hs, (List.dropLast_concat_getLast hs).symm⟩
    rw [numF_append] at hk
    cases ht : numF 0 t with
    | none => rw [ht] at hk; cases hk
    | some m =>
      rw [ht] at hk
      simp only [Option.bind_some, numF] at hk
      split at hk
      · rename_i hc
        simp only [Option.some.injEq] at hk
        have hc8 : UInt8.ofNat (48 + k % 10) = c := by
          have e1 : k % 10 = c.toNat - 48 := by omega
          rw [e1, show 48 + (c.toNat - 48) = c.toNat by omega]
          exact UInt8.ofNat_toNat
        by_cases h0 : t = []
        · subst h0
          simp only [numF, Option.some.injEq] at ht
          have hk10 : k < 10 := by omega
          rw [decS_small hk10, List.nil_append]
          rw [← hc8, show k % 10 = k by omega]
        · have hh : t.head? = (t ++ [c]).head? := by rw [head_app h0]
          have ht48 : t.head? ≠ some 48 := by
            intro e
            have := hz (by rw [← hh]; exact e)
            have := congrArg List.length this
            simp only [List.length_append, List.length_cons, List.length_nil] at this
            exact h0 (List.eq_nil_of_length_eq_zero (by omega))
          have e := ih t h0 (by simp at hn; omega) m ht (fun e => absurd e ht48)
          have hm : 0 < m := by
            cases t with
            | nil => exact absurd rfl h0
            | cons d t' =>
              rw [numF] at ht
              split at ht
              · rename_i hd
                have : d.toNat ≠ 48 := fun e => ht48 (by
                  have : d = 48 := UInt8.toNat_inj.1 (by simpa using e)
                  rw [this]; rfl)
                exact numF_pos t' _ m (by omega) ht
              · cases ht
          have hk10 : 10 ≤ k := by omega
          rw [decS_big hk10, show k / 10 = m by omega, ← e, hc8]
      · cases hk
theorem num_iff {s : List UInt8} {k : Nat} (h : numP s = some k) : s = decS k ∧ k ≤ 9999 := by
  unfold numP at h
  split at h
  · cases h
  · rename_i hn
    simp only [not_or, not_and, Decidable.not_not] at hn
    obtain ⟨h1, h2, h3⟩ := hn
    have e := num_some s h1 k h (fun e => h3 e)
    refine ⟨e, ?_⟩
    by_cases hk : k ≤ 9999
    · exact hk
    · exfalso
      have : ∀ n, 10000 ≤ n → 5 ≤ (decS n).length := by
        intro n
        induction n using Nat.strongRecOn with
        | _ n ih =>
          intro hn
          rw [decS_big (by omega), List.length_append]
          by_cases h : 100000 ≤ n
          · have := ih (n / 10) (by omega) (by omega); simp; omega
          · have l1 : (decS (n / 10)).length ≥ 4 := by
              rw [decS_big (n := n / 10) (by omega), List.length_append, decS_big (n := n / 10 / 10) (by omega), List.length_append, decS_big (n := n / 10 / 10 / 10) (by omega), List.length_append]
              have := dec_ne_nil (n / 10 / 10 / 10 / 10)
              have := List.length_pos_iff.2 this
              simp
              omega
            simp; omega
      have := this k (by omega)
      rw [← e] at this
      omega
end Go.Proofs.YtkboplcffailoaaGreatDoor
