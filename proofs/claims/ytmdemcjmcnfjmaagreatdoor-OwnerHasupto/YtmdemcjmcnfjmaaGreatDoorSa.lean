/- Plain functions on lists of bytes: what json's reader tells of a text. Nothing of the program stands here. -/
import Derived.Lib.Bytealg
set_option linter.unusedSimpArgs false
set_option linter.unusedVariables false
namespace Go.Proofs.YtmdemcjmcnfjmaaGreatDoor

def isSp (c : UInt8) : Bool := c == 32 || c == 9 || c == 10 || c == 13

def markS (c : UInt8) (l : List UInt8) : Option (List UInt8) :=
  match l.dropWhile isSp with
  | [] => none
  | x :: r => if x = c then some r else none

/- A digit to the base sixteen. -/
def hexv (c : UInt8) : Option Nat :=
  if 48 ≤ c.toNat ∧ c.toNat ≤ 57 then some (c.toNat - 48)
  else if 97 ≤ c.toNat ∧ c.toNat ≤ 102 then some (c.toNat - 87)
  else if 65 ≤ c.toNat ∧ c.toNat ≤ 70 then some (c.toNat - 55) else none

def digS : List UInt8 → Option (Nat × List UInt8)
  | [] => none
  | c :: l => (hexv c).map fun d => (d, l)

def digsS : Nat → Nat → List UInt8 → Option (Nat × List UInt8)
  | 0, n, l => some (n, l)
  | k + 1, n, l => (digS l).bind fun p => digsS k (n * 16 + p.1) p.2

def codedS (l : List UInt8) : Option (UInt8 × List UInt8) :=
  (digsS 4 0 l).bind fun p => if p.1 < 128 then some (p.1.toUInt8, p.2) else none

def escB (c : UInt8) : Option UInt8 :=
  if c = 34 then some 34 else if c = 92 then some 92 else if c = 98 then some 8 else if c = 102 then some 12
  else if c = 110 then some 10 else if c = 114 then some 13 else if c = 116 then some 9 else none

def escS : List UInt8 → Option (UInt8 × List UInt8)
  | [] => none
  | c :: l => if c = 117 then codedS l else if c = 47 then some (47, l) else (escB c).map fun x => (x, l)

/- What stands in quotes, behind the first of them; with so many steps at most. -/
def bodyS : Nat → List UInt8 → List UInt8 → Option (List UInt8 × List UInt8)
  | 0, _, _ => none
  | _ + 1, _, [] => none
  | n + 1, acc, c :: l =>
    if c = 34 then some (acc, l)
    else if c = 92 then (escS l).bind fun p => bodyS n (acc ++ [p.1]) p.2
    else if c.toNat < 32 ∨ 127 ≤ c.toNat then none
    else bodyS n (acc ++ [c]) l

def quotS (l : List UInt8) : Option (List UInt8 × List UInt8) :=
  (markS 34 l).bind fun l => bodyS (l.length + 1) [] l

theorem digS_len {l : List UInt8} {p : Nat × List UInt8} (h : digS l = some p) : p.2.length < l.length := by
  cases l with
  | nil => cases h
  | cons c l =>
    simp only [digS, Option.map_eq_some_iff] at h
    obtain ⟨d, _, rfl⟩ := h
    simp
theorem digsS_len (k : Nat) : ∀ (n : Nat) (l : List UInt8) (p : Nat × List UInt8), digsS k n l = some p → p.2.length ≤ l.length := by
  induction k with
  | zero => intro n l p h; simp only [digsS, Option.some.injEq] at h; subst h; exact Nat.le_refl _
  | succ k ih =>
    intro n l p h
    simp only [digsS, Option.bind_eq_some_iff] at h
    obtain ⟨q, h1, h2⟩ := h
    exact Nat.le_trans (ih _ _ _ h2) (Nat.le_of_lt (digS_len h1))
theorem codedS_len {l : List UInt8} {p : UInt8 × List UInt8} (h : codedS l = some p) : p.2.length ≤ l.length := by
  simp only [codedS, Option.bind_eq_some_iff] at h
  obtain ⟨q, h1, h2⟩ := h
  split at h2
  · cases h2; exact digsS_len _ _ _ _ h1
  · cases h2
theorem escS_len {l : List UInt8} {p : UInt8 × List UInt8} (h : escS l = some p) : p.2.length < l.length := by
  cases l with
  | nil => cases h
  | cons c l =>
    simp only [escS] at h
    split at h
    · exact Nat.lt_succ_of_le (codedS_len h)
    · split at h
      · cases h; simp
      · simp only [Option.map_eq_some_iff] at h
        obtain ⟨d, _, rfl⟩ := h
        simp
theorem bodyS_fuel (n : Nat) : ∀ (m : Nat) (acc l : List UInt8), l.length < n → l.length < m → bodyS n acc l = bodyS m acc l := by
  induction n with
  | zero => intro m acc l h; omega
  | succ n ih =>
    intro m acc l h1 h2
    cases m with
    | zero => omega
    | succ m =>
      cases l with
      | nil => rfl
      | cons c l =>
        simp only [bodyS]
        simp only [List.length_cons] at h1 h2
        split
        · rfl
        · split
          · cases he : escS l with
            | none => rfl
            | some p =>
              have := escS_len he
              exact ih m _ _ (by omega) (by omega)
          · split
            · rfl
            · exact ih m _ _ (by omega) (by omega)
theorem bodyS_len (n : Nat) : ∀ (acc l : List UInt8) (p : List UInt8 × List UInt8), bodyS n acc l = some p → p.2.length < l.length := by
  induction n with
  | zero => intro acc l p h; cases h
  | succ n ih =>
    intro acc l p h
    cases l with
    | nil => cases h
    | cons c l =>
      simp only [bodyS] at h
      split at h
      · cases h; simp
      · split at h
        · simp only [Option.bind_eq_some_iff] at h
          obtain ⟨q, h1, h2⟩ := h
          have := ih _ _ _ h2
          have := escS_len h1
          simp only [List.length_cons]; omega
        · split at h
          · cases h
          · have := ih _ _ _ h
            simp only [List.length_cons]; omega
theorem dropSp_len (l : List UInt8) : (l.dropWhile isSp).length ≤ l.length := (List.dropWhile_sublist _).length_le
theorem markS_len {c : UInt8} {l r : List UInt8} (h : markS c l = some r) : r.length < l.length := by
  unfold markS at h
  have := dropSp_len l
  split at h
  · cases h
  · rename_i x t e
    split at h
    · cases h
      rw [e] at this
      simp only [List.length_cons] at this
      omega
    · cases h
theorem quotS_len {l : List UInt8} {p : List UInt8 × List UInt8} (h : quotS l = some p) : p.2.length < l.length := by
  simp only [quotS, Option.bind_eq_some_iff] at h
  obtain ⟨q, h1, h2⟩ := h
  have := bodyS_len _ _ _ _ h2
  have := markS_len h1
  omega
theorem isSp_index (c : UInt8) : (0 ≤ Lib.indexByte [32, 9, 10, 13] c) = (isSp c = true) := by
  simp only [Lib.indexByte, isSp, eq_iff_iff]
  by_cases h1 : c = 32
  · subst h1; decide
  by_cases h2 : c = 9
  · subst h2; decide
  by_cases h3 : c = 10
  · subst h3; decide
  by_cases h4 : c = 13
  · subst h4; decide
  simp [h1, h2, h3, h4, Ne.symm h1, Ne.symm h2, Ne.symm h3, Ne.symm h4]
end Go.Proofs.YtmdemcjmcnfjmaaGreatDoor
