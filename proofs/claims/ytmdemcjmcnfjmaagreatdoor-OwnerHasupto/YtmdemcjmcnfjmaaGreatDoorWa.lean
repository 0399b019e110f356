/- Paths: their names, and what is made of names. -/
import Derived.Lib.Replace
import Derived.Lib.Split
import Derived.Lib.CountLaws
set_option linter.unusedSimpArgs false
set_option linter.unusedVariables false
namespace Go.Proofs.YtmdemcjmcnfjmaaGreatDoor

open Go.Lib (index count replaceK replaceAll split splitK)

/- strings.ReplaceAll, byte by byte. -/
theorem index_pre {old s : List UInt8} (h : old.isPrefixOf s = true) (hne : old ≠ []) : index s old = 0 := by
  cases s with
  | nil =>
    cases old with
    | nil => exact absurd rfl hne
    | cons a t => simp [List.isPrefixOf] at h
  | cons b l => rw [index, if_pos h]
theorem index_skip {old : List UInt8} {b : UInt8} {l : List UInt8} (h : old.isPrefixOf (b :: l) = false) : index (b :: l) old = if index l old = -1 then -1 else index l old + 1 := by
  rw [index, if_neg (by rw [h]; simp)]
  by_cases e : index l old = -1
  · rw [if_pos (by rw [e]; rfl), if_pos e]
  · rw [if_neg (by simpa using e), if_neg e]
theorem repl_def {s old new : List UInt8} (hd : old ≠ new) : replaceAll s old new = replaceK old new (count s old) s := by
  unfold Go.Lib.replaceAll Go.Lib.replace
  rw [if_neg (by simpa using hd)]
  unfold Go.Lib.replaceNum
  rw [if_pos (.inl (by omega))]
theorem repl_nil {old new : List UInt8} (hne : old ≠ []) (hd : old ≠ new) : replaceAll [] old new = [] := by
  rw [repl_def hd]
  have : index [] old = -1 := by
    cases old with
    | nil => exact absurd rfl hne
    | cons a t => rfl
  rw [Go.Lib.count_miss this]; rfl
theorem repl_hit {t old new : List UInt8} (hne : old ≠ []) (hd : old ≠ new) : replaceAll (old ++ t) old new = new ++ replaceAll t old new := by
  have hp : old.isPrefixOf (old ++ t) = true := List.isPrefixOf_iff_prefix.2 ⟨t, rfl⟩
  have hi : index (old ++ t) old = (0 : Nat) := index_pre hp hne
  rw [repl_def hd, repl_def hd, Go.Lib.count_hit hne hi, Nat.add_comm 1, Go.Lib.replaceK_hit _ _ _ _ 0 hi]
  simp
theorem repl_skip {old new : List UInt8} {b : UInt8} {l : List UInt8} (hne : old ≠ []) (hd : old ≠ new) (h : old.isPrefixOf (b :: l) = false) : replaceAll (b :: l) old new = b :: replaceAll l old new := by
  rw [repl_def hd, repl_def hd]
  have hs := index_skip h
  by_cases e : index l old = -1
  · rw [if_pos e] at hs
    rw [Go.Lib.count_miss e, Go.Lib.count_miss hs]; rfl
  · rw [if_neg e] at hs
    obtain ⟨i, hi⟩ : ∃ i : Nat, index l old = i := ⟨(index l old).toNat, by have := Go.Lib.index_ge l old; omega⟩
    have hi2 : index (b :: l) old = (i + 1 : Nat) := by rw [hs, hi]; rfl
    rw [Go.Lib.count_hit hne hi, Go.Lib.count_hit hne hi2]
    have e1 : (b :: l).drop (i + 1 + old.length) = l.drop (i + old.length) := by
      rw [show i + 1 + old.length = (i + old.length) + 1 by omega]; rfl
    rw [e1, Nat.add_comm 1, Go.Lib.replaceK_hit _ _ _ _ _ hi, Go.Lib.replaceK_hit _ _ _ _ _ hi2, e1]
    simp

/- A name as it stands in a path. -/
def escP (c : UInt8) : List UInt8 := if c = 126 then [126, 48] else if c = 47 then [126, 49] else [c]
def markedL (s : List UInt8) : List UInt8 := replaceAll (replaceAll s [126] [126, 48]) [47] [126, 49]
def unmarkedL (s : List UInt8) : List UInt8 := replaceAll (replaceAll s [126, 49] [47]) [126, 48] [126]
theorem pre_one (a b : UInt8) (l : List UInt8) : ([a] : List UInt8).isPrefixOf (b :: l) = (a == b) := by simp [List.isPrefixOf]
theorem mark1 (s : List UInt8) : replaceAll s [126] [126, 48] = s.flatMap fun c => if c = 126 then [126, 48] else [c] := by
  induction s with
  | nil => exact repl_nil (by simp) (by simp)
  | cons c s ih =>
    rw [List.flatMap_cons]
    by_cases h : c = 126
    · subst h
      rw [if_pos rfl, ← ih]
      exact repl_hit (t := s) (old := [126]) (by simp) (by simp)
    · rw [if_neg h, repl_skip (by simp) (by simp) (by rw [pre_one]; simpa using fun e => h e.symm), ih]; rfl
theorem mark2 (s : List UInt8) : replaceAll s [47] [126, 49] = s.flatMap fun c => if c = 47 then [126, 49] else [c] := by
  induction s with
  | nil => exact repl_nil (by simp) (by simp)
  | cons c s ih =>
    rw [List.flatMap_cons]
    by_cases h : c = 47
    · subst h
      rw [if_pos rfl, ← ih]
      exact repl_hit (t := s) (old := [47]) (by simp) (by simp)
    · rw [if_neg h, repl_skip (by simp) (by simp) (by rw [pre_one]; simpa using fun e => h e.symm), ih]; rfl
theorem marked_eq (s : List UInt8) : markedL s = s.flatMap escP := by
  unfold markedL
  rw [mark1, mark2]
  induction s with
  | nil => rfl
  | cons c s ih =>
    rw [List.flatMap_cons, List.flatMap_append, ih, List.flatMap_cons]
    congr 1
    unfold escP
    by_cases h : c = 126
    · subst h; decide
    · by_cases h2 : c = 47
      · subst h2; decide
      · simp [h, h2]
theorem unmark1 (s : List UInt8) : replaceAll (s.flatMap escP) [126, 49] [47] = s.flatMap fun c => if c = 126 then [126, 48] else [c] := by
  induction s with
  | nil => exact repl_nil (by simp) (by simp)
  | cons c s ih =>
    rw [List.flatMap_cons, List.flatMap_cons]
    unfold escP
    by_cases h : c = 126
    · subst h
      rw [if_pos rfl, if_pos rfl]
      show replaceAll (126 :: 48 :: s.flatMap escP) _ _ = _
      rw [repl_skip (by simp) (by simp) (by simp [List.isPrefixOf]), repl_skip (by simp) (by simp) (by simp [List.isPrefixOf]), ih]; rfl
    · rw [if_neg h, if_neg h]
      by_cases h2 : c = 47
      · subst h2
        rw [if_pos rfl, ← ih]
        exact repl_hit (t := s.flatMap escP) (old := [126, 49]) (by simp) (by simp)
      · rw [if_neg h2]
        show replaceAll (c :: s.flatMap escP) _ _ = _
        rw [repl_skip (by simp) (by simp) (by simp [List.isPrefixOf, Ne.symm h]), ih]; rfl
theorem unmark2 (s : List UInt8) : replaceAll (s.flatMap fun c => if c = 126 then [126, 48] else [c]) [126, 48] [126] = s := by
  induction s with
  | nil => exact repl_nil (by simp) (by simp)
  | cons c s ih =>
    rw [List.flatMap_cons]
    by_cases h : c = 126
    · subst h
      rw [if_pos rfl]
      have := repl_hit (t := s.flatMap fun c => if c = 126 then [126, 48] else [c]) (old := [126, 48]) (new := [126]) (by simp) (by simp)
      rw [this, ih]; rfl
    · rw [if_neg h]
      show replaceAll (c :: s.flatMap fun c => if c = 126 then [126, 48] else [c]) _ _ = _
      rw [repl_skip (by simp) (by simp) (by simp [List.isPrefixOf, Ne.symm h]), ih]
theorem unmarked_marked (s : List UInt8) : unmarkedL (s.flatMap escP) = s := by
  unfold unmarkedL
  rw [unmark1, unmark2]

/- Behind each mark there is what it stands with. -/
def wholeP : List UInt8 → Bool
  | [] => true
  | c :: r => (c != 126 || (match r with | d :: _ => d == 48 || d == 49 | [] => false)) && wholeP r
theorem whole_cons (c : UInt8) (r : List UInt8) (h : c ≠ 126) : wholeP (c :: r) = wholeP r := by
  simp [wholeP, h]
theorem whole_mark (d : UInt8) (r : List UInt8) : wholeP (126 :: d :: r) = ((d == 48 || d == 49) && wholeP r) := by
  by_cases h : d = 126
  · subst h; simp [wholeP]
  · rw [wholeP, whole_cons d r h]; simp
theorem whole_esc (s : List UInt8) (r : List UInt8) : wholeP (s.flatMap escP ++ r) = wholeP r := by
  induction s with
  | nil => rfl
  | cons c s ih =>
    rw [List.flatMap_cons, List.append_assoc]
    unfold escP
    by_cases h : c = 126
    · rw [if_pos h]
      show wholeP (126 :: 48 :: (s.flatMap escP ++ r)) = _
      rw [whole_mark, ih]; simp
    · rw [if_neg h]
      by_cases h2 : c = 47
      · rw [if_pos h2]
        show wholeP (126 :: 49 :: (s.flatMap escP ++ r)) = _
        rw [whole_mark, ih]; simp
      · rw [if_neg h2]
        show wholeP (c :: (s.flatMap escP ++ r)) = _
        rw [whole_cons c _ h, ih]
/- A name of a path whose marks are whole is made of a name. -/
theorem whole_made (n : Nat) : ∀ (s : List UInt8), s.length ≤ n → wholeP s = true → 47 ∉ s → ∃ m : List UInt8, s = m.flatMap escP := by
  induction n with
  | zero =>
    intro s hs _ _
    obtain rfl : s = [] := List.eq_nil_of_length_eq_zero (by omega)
    exact ⟨[], rfl⟩
  | succ n ih =>
    intro s hs hw hn
    cases s with
    | nil => exact ⟨[], rfl⟩
    | cons c r =>
      by_cases h : c = 126
      · subst h
        cases r with
        | nil => simp [wholeP] at hw
        | cons d r =>
          rw [whole_mark, Bool.and_eq_true] at hw
          obtain ⟨m, hm⟩ := ih r (by simp at hs; omega) hw.2 (fun h => hn (by simp [h]))
          rcases Bool.or_eq_true _ _ |>.mp hw.1 with hd | hd
          · have : d = 48 := by simpa using hd
            subst this
            exact ⟨126 :: m, by rw [List.flatMap_cons, ← hm]; rfl⟩
          · have : d = 49 := by simpa using hd
            subst this
            exact ⟨47 :: m, by rw [List.flatMap_cons, ← hm]; rfl⟩
      · rw [whole_cons c r h] at hw
        obtain ⟨m, hm⟩ := ih r (by simp at hs; omega) hw (fun h => hn (by simp [h]))
        refine ⟨c :: m, ?_⟩
        rw [List.flatMap_cons, ← hm]
        unfold escP
        rw [if_neg h, if_neg (fun e => hn (by simp [e]))]; rfl

/- strings.Split at one byte. -/
theorem split_nil (a : UInt8) : split [] [a] = [[]] := by
  unfold Go.Lib.split
  rw [Go.Lib.count_miss (by rfl)]; rfl
theorem split_sep (a : UInt8) (r : List UInt8) : split (a :: r) [a] = [] :: split r [a] := by
  have hi : index (a :: r) [a] = (0 : Nat) := index_pre (by rw [pre_one]; simp) (by simp)
  unfold Go.Lib.split
  rw [Go.Lib.count_hit (by simp) hi, Nat.add_comm 1, splitK, if_neg (by rw [hi]; decide), hi]
  rfl
theorem split_other (a b : UInt8) (r : List UInt8) (h : b ≠ a) : split (b :: r) [a] = match split r [a] with | [] => [] | x :: xs => (b :: x) :: xs := by
  have hp : ([a] : List UInt8).isPrefixOf (b :: r) = false := by rw [pre_one]; simpa using fun e => h e.symm
  have hs := index_skip hp
  unfold Go.Lib.split
  by_cases e : index r [a] = -1
  · rw [if_pos e] at hs
    rw [Go.Lib.count_miss e, Go.Lib.count_miss hs]; rfl
  · rw [if_neg e] at hs
    obtain ⟨i, hi⟩ : ∃ i : Nat, index r [a] = i := ⟨(index r [a]).toNat, by have := Go.Lib.index_ge r [a]; omega⟩
    have hi2 : index (b :: r) [a] = (i + 1 : Nat) := by rw [hs, hi]; rfl
    have e1 : (b :: r).drop (i + 1 + 1) = r.drop (i + 1) := rfl
    rw [Go.Lib.count_hit (by simp) hi, Go.Lib.count_hit (by simp) hi2]
    simp only [List.length_cons, List.length_nil, Nat.zero_add]
    rw [e1, Nat.add_comm 1, splitK, splitK, if_neg (by rw [hi2]; rw [beq_iff_eq]; omega), if_neg (by rw [hi]; rw [beq_iff_eq]; omega), hi, hi2]
    rfl
theorem split_ne (a : UInt8) (s : List UInt8) : split s [a] ≠ [] := by
  induction s with
  | nil => rw [split_nil]; simp
  | cons b r ih =>
    by_cases h : b = a
    · subst h; rw [split_sep]; simp
    · rw [split_other a b r h]
      cases hr : split r [a] with
      | nil => exact absurd hr ih
      | cons x xs => simp
/- The parts, put together again. -/
def glue (a : UInt8) : List (List UInt8) → List UInt8
  | [] => []
  | x :: xs => x ++ xs.flatMap fun y => a :: y
theorem glue_split (a : UInt8) (s : List UInt8) : glue a (split s [a]) = s := by
  induction s with
  | nil => rw [split_nil]; rfl
  | cons b r ih =>
    by_cases h : b = a
    · subst h
      rw [split_sep]
      cases hr : split r [b] with
      | nil => exact absurd hr (split_ne b r)
      | cons x xs =>
        rw [hr] at ih
        simp only [glue, List.nil_append, List.flatMap_cons, List.cons_append] at ih ⊢
        rw [ih]
    · rw [split_other a b r h]
      cases hr : split r [a] with
      | nil => exact absurd hr (split_ne a r)
      | cons x xs =>
        rw [hr] at ih
        simp only [glue, List.cons_append] at ih ⊢
        rw [ih]
theorem split_free (a : UInt8) (s : List UInt8) : ∀ x ∈ split s [a], a ∉ x := by
  induction s with
  | nil => rw [split_nil]; simp
  | cons b r ih =>
    by_cases h : b = a
    · subst h
      rw [split_sep]
      intro x hx
      rcases List.mem_cons.1 hx with rfl | hx
      · simp
      · exact ih x hx
    · rw [split_other a b r h]
      cases hr : split r [a] with
      | nil => exact absurd hr (split_ne a r)
      | cons y ys =>
        rw [hr] at ih
        intro x hx
        rcases List.mem_cons.1 hx with rfl | hx
        · intro hm
          rcases List.mem_cons.1 hm with hm | hm
          · exact h hm.symm
          · exact ih y (by simp) hm
        · exact ih x (by simp [hx])
theorem split_append (a : UInt8) (x : List UInt8) (hx : a ∉ x) (s : List UInt8) : split (x ++ a :: s) [a] = x :: split s [a] := by
  induction x with
  | nil => exact split_sep a s
  | cons b x ih =>
    rw [List.cons_append, split_other a b _ (fun e => hx (by simp [e])), ih fun h => hx (by simp [h])]
theorem split_alone (a : UInt8) (x : List UInt8) (hx : a ∉ x) : split x [a] = [x] := by
  induction x with
  | nil => exact split_nil a
  | cons b x ih => rw [split_other a b _ (fun e => hx (by simp [e])), ih fun h => hx (by simp [h])]
theorem split_glue (a : UInt8) (x : List UInt8) (xs : List (List UInt8)) (h : ∀ y ∈ x :: xs, a ∉ y) : split (glue a (x :: xs)) [a] = x :: xs := by
  induction xs generalizing x with
  | nil => simp only [glue, List.flatMap_nil, List.append_nil]; exact split_alone a x (h x (by simp))
  | cons y ys ih =>
    have := ih y fun z hz => h z (by simp at hz ⊢; right; exact hz)
    simp only [glue, List.flatMap_cons, List.cons_append] at this ⊢
    rw [split_append a x (h x (by simp)), this]

/- Split and Join. -/
def splitP (p : List UInt8) : List (List UInt8) × Int :=
  match p with
  | [] => ([], 0)
  | c :: r => if c ≠ 47 ∨ 2000 < p.length ∨ wholeP p = false then ([], 1) else ((split r [47]).map unmarkedL, 0)
def joinP (l : List (List UInt8)) : List UInt8 := l.flatMap fun n => 47 :: markedL n
theorem esc_free (s : List UInt8) : 47 ∉ s.flatMap escP := by
  intro h
  simp only [List.mem_flatMap] at h
  obtain ⟨c, -, h⟩ := h
  unfold escP at h
  split at h
  · simp at h
  · split at h
    · simp at h
    · rename_i h1; simp at h; exact h1 h.symm
theorem join_whole (l : List (List UInt8)) : wholeP (joinP l) = true := by
  unfold joinP
  induction l with
  | nil => rfl
  | cons n l ih => rw [List.flatMap_cons, List.cons_append, whole_cons _ _ (by decide), marked_eq, whole_esc, ih]
theorem split_join (l : List (List UInt8)) (h : (joinP l).length ≤ 2000) : splitP (joinP l) = (l, 0) := by
  have hw := join_whole l
  cases l with
  | nil => rfl
  | cons n l =>
    have e : joinP (n :: l) = 47 :: glue 47 ((n :: l).map markedL) := by
      simp only [joinP, List.flatMap_cons, List.cons_append, List.map_cons, glue, List.flatMap_map]
    rw [e] at h hw ⊢
    unfold splitP
    simp only
    rw [if_neg (by rw [hw]; simp; simp at h; omega)]
    rw [List.map_cons, split_glue 47 _ _ (by
      intro y hy
      rw [← List.map_cons] at hy
      obtain ⟨z, -, rfl⟩ := List.mem_map.1 hy
      rw [marked_eq]; exact esc_free z)]
    have : ∀ (l : List (List UInt8)), (l.map markedL).map unmarkedL = l := by
      intro l
      induction l with
      | nil => rfl
      | cons a l ih => rw [List.map_cons, List.map_cons, ih, marked_eq, unmarked_marked]
    rw [← List.map_cons, this]
theorem whole_append (a b : List UInt8) (h : wholeP (a ++ 47 :: b) = true) : wholeP a = true ∧ wholeP b = true := by
  induction a with
  | nil => exact ⟨rfl, by rwa [List.nil_append, whole_cons _ _ (by decide)] at h⟩
  | cons c a ih =>
    by_cases hc : c = 126
    · subst hc
      cases a with
      | nil => rw [List.cons_append, List.nil_append, whole_mark] at h; simp at h
      | cons d a =>
        rw [List.cons_append, List.cons_append, wholeP] at h
        simp only [Bool.and_eq_true] at h
        obtain ⟨h1, h2⟩ := ih h.2
        rw [wholeP]
        simp only [Bool.and_eq_true]
        exact ⟨⟨h.1, h1⟩, h2⟩
    · rw [List.cons_append, whole_cons c _ hc] at h
      rw [whole_cons c _ hc]; exact ih h
theorem whole_parts (x : List UInt8) (xs : List (List UInt8)) (h : wholeP (glue 47 (x :: xs)) = true) : ∀ y ∈ x :: xs, wholeP y = true := by
  induction xs generalizing x with
  | nil => intro y hy; rw [List.mem_singleton.1 hy]; simpa [glue] using h
  | cons z zs ih =>
    have e : glue 47 (x :: z :: zs) = x ++ 47 :: glue 47 (z :: zs) := by simp [glue]
    rw [e] at h
    obtain ⟨h1, h2⟩ := whole_append _ _ h
    intro y hy
    rcases List.mem_cons.1 hy with rfl | hy
    · exact h1
    · exact ih z h2 y hy
theorem join_split (p : List UInt8) (b : List (List UInt8)) (h : splitP p = (b, 0)) : joinP b = p := by
  unfold splitP at h
  split at h
  · simp only [Prod.mk.injEq, and_true] at h; subst h; rfl
  · rename_i c r
    split at h
    · simp at h
    · rename_i hc
      simp only [not_or, Decidable.not_not, Bool.not_eq_false] at hc
      obtain ⟨rfl, -, hw⟩ := hc
      simp only [Prod.mk.injEq, and_true] at h
      subst h
      rw [whole_cons _ _ (by decide)] at hw
      have hg := glue_split 47 r
      cases hs : split r [47] with
      | nil => exact absurd hs (split_ne 47 r)
      | cons x xs =>
        rw [hs] at hg
        have hf : ∀ y ∈ x :: xs, 47 ∉ y := by rw [← hs]; exact split_free 47 r
        rw [← hg] at hw
        have hp := whole_parts x xs hw
        have hm : ∀ y ∈ x :: xs, markedL (unmarkedL y) = y := by
          intro y hy
          obtain ⟨m, rfl⟩ := whole_made y.length y (Nat.le_refl _) (hp y hy) (hf y hy)
          rw [unmarked_marked, marked_eq]
        have e : joinP ((x :: xs).map unmarkedL) = 47 :: glue 47 (x :: xs) := by
          simp only [joinP, List.map_cons, List.flatMap_cons, List.cons_append, glue, List.flatMap_map]
          rw [hm x (by simp)]
          congr 2
          have : ∀ l : List (List UInt8), (∀ y ∈ l, markedL (unmarkedL y) = y) → (l.flatMap fun y => 47 :: markedL (unmarkedL y)) = l.flatMap fun y => 47 :: y := by
            intro l
            induction l with
            | nil => intro _; rfl
            | cons a l ih => intro h; rw [List.flatMap_cons, List.flatMap_cons, h a (by simp), ih fun y hy => h y (by simp [hy])]
          exact this xs fun y hy => hm y (by simp [hy])
        rw [e, hg]
theorem esc_len (s : List UInt8) : (s.flatMap escP).length ≤ 2 * s.length := by
  induction s with
  | nil => simp
  | cons c s ih =>
    have : (escP c).length ≤ 2 := by
      unfold escP; repeat' split
      all_goals simp
    simp only [List.flatMap_cons, List.length_append, List.length_cons]; omega
theorem ba_size (l : List UInt8) : (ByteArray.mk l.toArray).size = l.length := by simp [ByteArray.size]
end Go.Proofs.YtmdemcjmcnfjmaaGreatDoor
