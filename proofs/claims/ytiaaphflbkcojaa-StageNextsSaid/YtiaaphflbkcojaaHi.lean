/- The laws of package stage, plainly. -/
import Derived.Test.YtiaaphflbkcojaaHa
set_option linter.unusedSimpArgs false
set_option linter.unusedVariables false
namespace Go.Proofs.Ytiaaphflbkcojaa
open Go.RowKit

theorem next_err {g : List UInt8} {l : List Stp} {t : Sta} {now order : Int} (h : (nextF g l t now order).2 ≠ 0) : (nextF g l t now order).1 = t := by
  simp only [nextF] at h ⊢
  split
  · rfl
  · rename_i h1
    rw [if_neg h1] at h
    split
    · rfl
    · rename_i h2
      rw [if_neg h2] at h
      split
      · rfl
      · rename_i h3
        rw [if_neg h3] at h
        split at h <;> exact absurd rfl h

/- StageBounds. -/
theorem bounds_good {g : List UInt8} {l : List Stp} {t : Sta} {now order : Int} (e : (nextF g l t now order).2 = 0) : staOk (nextF g l t now order).1 = true ∧
    ((nextF g l t now order).1.st ≤ t.st ∨ (nextF g l t now order).1.st ≤ (l.length : Int)) ∧
    ((nextF g l t now order).1.we = 0 ∨ (nextF g l t now order).1.we = 100 ∨ (nextF g l t now order).1.we = t.we ∨ ∃ x ∈ l, (nextF g l t now order).1.we = x.w) ∧
    ((nextF g l t now order).1.a = t.a ∨ (nextF g l t now order).1.ph = 1 ∧ (nextF g l t now order).1.a = g) ∧ (nextF g l t now order).1.c = g := by
  obtain ⟨⟨k1, k2, k3, k4, k5⟩, k⟩ := next_good e
  obtain ⟨⟨g1, g2, g3⟩, g4⟩ := specOk_iff.1 k1
  generalize nextF g l t now order = r at *
  obtain ⟨u, n⟩ := r
  rcases k with h | ⟨h, ha, hc, h1, h2, h3, h4⟩ | ⟨h1, ha, hc, h3, h4, h5, h6, x, m, h7, h8, h9⟩
  · simp only at h
    subst h
    exact ⟨healthy_ok g1, .inr (by simp [healthyS]), .inr (.inl rfl), .inr ⟨rfl, rfl⟩, rfl⟩
  · simp only at h ha hc h1 h2 h3
    refine ⟨by rw [h]; exact aborted_ok h1 h2 h3, .inr (by rw [h]; simp [abortedS]), .inl (by rw [h]; rfl), .inl ha, hc⟩
  · simp only at h1 ha hc h5 h7
    refine ⟨h1.ok, .inr ?_, ?_, .inl ha, hc⟩
    · have := congrArg List.length h7
      rw [List.length_drop] at this
      simp at this
      have := h1.2.2.2.1
      simp only
      omega
    · rcases h5 with h | h | h
      · exact .inl h
      · exact .inr (.inr (.inl h))
      · exact .inr (.inr (.inr h))

/- StageOnward. -/
theorem onward_good {g : List UInt8} {l : List Stp} {t : Sta} {now order : Int} (e : (nextF g l t now order).2 = 0) (hc : t.c = g) :
    (((nextF g l t now order).1.ph = 2 ∨ (nextF g l t now order).1.ph = 3) → t.st ≤ (nextF g l t now order).1.st) ∧
    (¬ ((nextF g l t now order).1.ph = 2 ∨ (nextF g l t now order).1.ph = 3) → t.ph ≠ 4 ∨ (nextF g l t now order).1 = t) := by
  obtain ⟨⟨k1, k2, k3, k4, k5⟩, k⟩ := next_good e
  have h4 : t.ph = 4 → (nextF g l t now order).1 = t := by
    intro h
    rw [nextF, if_neg (by simp [k1, k2]), if_neg (by simp [k3]), if_neg (by omega), if_neg (fun h => h.1 hc.symm), comesS, if_pos hc.symm, nextS, if_pos (.inr h)]
  refine ⟨fun hp => ?_, fun _ => ?_⟩
  · rcases k with h | ⟨h, _⟩ | ⟨h1, ha, hc', h3, h4, _⟩
    · rw [h] at hp; simp [healthyS] at hp
    · rw [h] at hp; simp [abortedS] at hp
    · exact h4 hc
  · by_cases h : t.ph = 4
    · exact .inr (h4 h)
    · exact .inl h

/- StageStill. -/
theorem still_good {g : List UInt8} {l : List Stp} {t : Sta} {now : Int} (e : (nextF g l t now 0).2 = 0) : nextF g l (nextF g l t now 0).1 now 0 = ((nextF g l t now 0).1, 0) := by
  obtain ⟨k1, k2, -⟩ := bounds_good e
  obtain ⟨⟨j1, j2, j3, j4, j5⟩, k⟩ := next_good e
  generalize nextF g l t now 0 = r at *
  obtain ⟨u, n⟩ := r
  simp only at k1 k ⊢
  have hc : u.c = g := by
    rcases k with h | ⟨_, _, h, _⟩ | ⟨_, _, h, _⟩
    · rw [h]; rfl
    · exact h
    · exact h
  rw [nextF, if_neg (by simp [j1, k1]), if_neg (by simp [j3]), if_neg (by omega), if_neg (fun h => h.1 hc.symm), comesS, if_pos hc.symm, nextS]
  rcases k with h | ⟨h, _⟩ | ⟨h1, ha, hc', h3, h4, h5, h6, x, m, h7, h8, h9⟩
  · rw [if_pos (.inl (by rw [h]; rfl))]
  · rw [if_pos (.inr (by rw [h]; rfl))]
  · rw [if_neg (by omega), if_neg (by omega), if_neg (by omega), h7, rollF, if_neg (by simp [h8]), if_neg (by simp [h3])]
    have hx : stepOk x = true := by
      have : x ∈ l.drop u.st.toNat := by rw [h7]; simp
      exact (specOk_iff.1 j1).2 x (List.mem_of_mem_drop this)
    rw [stepOk, if_pos h8, isT_iff] at hx
    have hq : x.p = 0 ∨ now - u.si < x.p := by
      rcases h9 with ⟨h, _⟩ | ⟨_, _, h⟩
      · omega
      · exact h
    rw [if_pos ⟨by decide, hq⟩]

/- StageEnds. -/
def endsF (g : List UInt8) (l : List Stp) : Nat → Sta → Int → Sta
  | 0, t, _ => t
  | n + 1, t, now => endsF g l n (nextF g l t now 0).1 (now + 1073741824)
def PauseOk (l : List Stp) : Prop := ∀ x ∈ l, x.w = -1 → x.p ≠ 0 ∧ x.p ≤ 1073741824
/- Behind k rounds. -/
def EndI (g : List UInt8) (l : List Stp) (k : Nat) (t : Sta) (now : Int) : Prop :=
  t = healthyS g ∨ (Way t ∧ t.c = g ∧ t.ph = 3 ∧ (k : Int) ≤ t.st + 1 ∧ t.st < (l.length : Int) ∧ t.si ≤ now - 1073741824)
theorem ends_step {g : List UInt8} {l : List Stp} {k : Nat} {t : Sta} {now : Int} (hs : specOk g l = true) (hp : PauseOk l) (h0 : 0 ≤ now) (h1 : now ≤ 1099511627776) (h : EndI g l k t now) :
    (nextF g l t now 0).2 = 0 ∧ EndI g l (k + 1) (nextF g l t now 0).1 (now + 1073741824) := by
  have hT : isT now = true := isT_iff.2 ⟨h0, h1⟩
  have ht : staOk t = true := by
    rcases h with h | h
    · rw [h]; exact healthy_ok (specOk_iff.1 hs).1.1
    · exact h.1.ok
  have e : (nextF g l t now 0).2 = 0 := by
    rw [nextF, if_neg (by simp [hs, ht]), if_neg (by simp [hT]), if_neg (by omega)]
    split <;> rfl
  refine ⟨e, ?_⟩
  have hh : t = healthyS g → (nextF g l t now 0).1 = t := by
    intro h
    have hc : t.c = g := by rw [h]; rfl
    rw [nextF, if_neg (by simp [hs, ht]), if_neg (by simp [hT]), if_neg (by omega), if_neg (fun h => h.1 hc.symm), comesS, if_pos hc.symm, nextS, if_pos (.inl (by rw [h]; rfl))]
  obtain ⟨-, k9⟩ := next_good e
  generalize nextF g l t now 0 = r at *
  obtain ⟨u, n⟩ := r
  simp only at k9 ⊢
  have hc : t.c = g := by
    rcases h with h | h
    · rw [h]; rfl
    · exact h.2.1
  rcases k9 with h' | ⟨h', ha, hc', q1, q2, q3, h''⟩ | ⟨q1, ha, hc', h3, h4, h5, h6, x, m, h7, h8, h9⟩
  · exact .inl h'
  · exfalso
    rcases h'' with h'' | h''
    · rcases h with h | h
      · rw [h''] at h
        rw [h'] at h
        have := congrArg Sta.ph h
        simp [abortedS, healthyS] at this
      · obtain ⟨-, -, h3, -⟩ := h
        rw [h'', h'] at h3; simp [abortedS] at h3
    · omega
  · refine .inr ⟨q1, hc', h3, ?_⟩
    have hlen : u.st < (l.length : Int) := by
      have := congrArg List.length h7
      rw [List.length_drop] at this
      simp at this
      have := q1.2.2.2.1
      omega
    have hx : x ∈ l := by
      have : x ∈ l.drop u.st.toNat := by rw [h7]; simp
      exact List.mem_of_mem_drop this
    rcases h with h | ⟨r1, r2, r3, r4, r5, r6⟩
    · exfalso
      have := hh h
      simp only at this
      rw [this, h] at h3; simp [healthyS] at h3
    · rcases h9 with ⟨h, h'⟩ | ⟨h, _, h'⟩
      · have := h' hc r3
        exact ⟨by omega, hlen, by omega⟩
      · exfalso
        obtain ⟨p1, p2⟩ := hp x hx h8
        rcases h' with h' | h'
        · exact p1 h'
        · rw [h] at h'; omega
theorem ends_first {g : List UInt8} {l : List Stp} {t : Sta} {now : Int} (e : (nextF g l t now 0).2 = 0) (hs : t.si ≤ now) (ha : ¬ (t.ph = 4 ∧ t.c = g)) : specOk g l = true ∧ EndI g l 1 (nextF g l t now 0).1 (now + 1073741824) := by
  obtain ⟨⟨j1, j2, j3, j4, j5⟩, k9⟩ := next_good e
  refine ⟨j1, ?_⟩
  generalize nextF g l t now 0 = r at *
  obtain ⟨u, n⟩ := r
  simp only at k9 ⊢
  rcases k9 with h' | ⟨h', ha', hc', q1, q2, q3, h''⟩ | ⟨q1, ha', hc', h3, h4, h5, h6, x, m, h7, h8, h9⟩
  · exact .inl h'
  · exfalso
    rcases h'' with h'' | h''
    · exact ha ⟨by rw [h'', h']; rfl, by rw [h'']; exact hc'⟩
    · omega
  · refine .inr ⟨q1, hc', h3, by have := q1.2.2.2.1; omega, ?_, ?_⟩
    · have := congrArg List.length h7
      rw [List.length_drop] at this
      simp at this
      have := q1.2.2.2.1
      omega
    · rcases h9 with ⟨h, _⟩ | ⟨h, _⟩
      · omega
      · rw [h]; omega
theorem ends_last {g : List UInt8} {l : List Stp} {t : Sta} {now : Int} (hs : specOk g l = true) (h : EndI g l 10 t now) : t = healthyS g := by
  obtain ⟨⟨-, -, g3⟩, -⟩ := specOk_iff.1 hs
  rcases h with h | ⟨-, -, -, h4, h5, -⟩
  · exact h
  · omega
theorem ends_bad {g : List UInt8} {l : List Stp} {t : Sta} {now : Int} (h0 : 0 ≤ now) (h1 : now ≤ 1099511627776) (e : (nextF g l t now 0).2 ≠ 0) : staOk t = false ∨ specOk g l = false := by
  cases hs : specOk g l with
  | false => exact .inr rfl
  | true =>
    cases ht : staOk t with
    | false => exact .inl rfl
    | true =>
      exfalso
      apply e
      rw [nextF, if_neg (by simp [hs, ht]), if_neg (by simp [isT_iff.2 ⟨h0, h1⟩]), if_neg (by omega)]
      split <;> rfl
end Go.Proofs.Ytiaaphflbkcojaa
