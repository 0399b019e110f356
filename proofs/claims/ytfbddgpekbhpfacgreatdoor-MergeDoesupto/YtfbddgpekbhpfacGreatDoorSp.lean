/- What a text tells: the plain function that Parse is held against. -/
import Derived.Test.YtfbddgpekbhpfacGreatDoorRg
import Derived.Test.YtfbddgpekbhpfacGreatDoorCp
set_option linter.unusedSimpArgs false
set_option linter.unusedVariables false
namespace Go.Proofs.YtfbddgpekbhpfacGreatDoor
open Go.RowKit

def itemsS (g : List UInt8 → Option (V × List UInt8)) : Nat → List V → List UInt8 → Option (V × List UInt8)
  | 0, _, _ => none
  | k + 1, acc, l =>
    match markS 44 l with
    | some r => (g r).bind fun p => itemsS g k (acc ++ [p.1]) p.2
    | none => (markS 93 (l.dropWhile isSp)).map fun r => (⟨4, 0, [], [], acc⟩, r)
def listS (g : List UInt8 → Option (V × List UInt8)) (l : List UInt8) : Option (V × List UInt8) :=
  (markS 91 l).bind fun l =>
    match markS 93 l with
    | some r => some (⟨4, 0, [], [], []⟩, r)
    | none => (g (l.dropWhile isSp)).bind fun p => itemsS g (p.2.length + 1) [p.1] p.2
def memS (g : List UInt8 → Option (V × List UInt8)) (v : V) (l : List UInt8) : Option (V × List UInt8) :=
  (quotS l).bind fun q => (markS 58 q.2).bind fun l => (g l).bind fun p => if (memV v q.1).isSome then none else some (withV v q.1 p.1, p.2)
def membsS (g : List UInt8 → Option (V × List UInt8)) : Nat → V → List UInt8 → Option (V × List UInt8)
  | 0, _, _ => none
  | k + 1, v, l =>
    match markS 44 l with
    | some r => (memS g v r).bind fun p => membsS g k p.1 p.2
    | none => (markS 125 (l.dropWhile isSp)).map fun r => (v, r)
def objS (g : List UInt8 → Option (V × List UInt8)) (l : List UInt8) : Option (V × List UInt8) :=
  (markS 123 l).bind fun l =>
    match markS 125 l with
    | some r => some (⟨5, 0, [], [], []⟩, r)
    | none => (memS g ⟨5, 0, [], [], []⟩ (l.dropWhile isSp)).bind fun p => membsS g (p.2.length + 1) p.1 p.2
def oneS (g : List UInt8 → Option (V × List UInt8)) (l : List UInt8) : Option (V × List UInt8) :=
  if hd0 l = 110 then (wordS [110, 117, 108, 108] l).map fun r => (leafV 0 0 [], r)
  else if hd0 l = 102 then (wordS [102, 97, 108, 115, 101] l).map fun r => (leafV 1 0 [], r)
  else if hd0 l = 116 then (wordS [116, 114, 117, 101] l).map fun r => (leafV 1 1 [], r)
  else if hd0 l = 34 then (quotS l).map fun p => (leafV 3 0 p.1, p.2)
  else if hd0 l = 91 then listS g l
  else if hd0 l = 123 then objS g l
  else (numS l).map fun p => (leafV 2 p.1 [], p.2)
def valS : Nat → List UInt8 → Option (V × List UInt8)
  | 0, _ => none
  | f + 1, l => oneS (valS f) (l.dropWhile isSp)

/- It leaves less than there was. -/
def Less (g : List UInt8 → Option (V × List UInt8)) : Prop := ∀ l p, g l = some p → p.2.length < l.length
theorem itemsS_len {g : List UInt8 → Option (V × List UInt8)} (hg : Less g) (k : Nat) : ∀ (acc : List V) (l : List UInt8) (p : V × List UInt8), itemsS g k acc l = some p → p.2.length < l.length := by
  induction k with
  | zero => intro acc l p h; cases h
  | succ k ih =>
    intro acc l p h
    simp only [itemsS] at h
    split at h
    · rename_i r hr
      simp only [Option.bind_eq_some_iff] at h
      obtain ⟨q, h1, h2⟩ := h
      have := hg _ _ h1
      have := ih _ _ _ h2
      have := markS_len hr
      omega
    · simp only [Option.map_eq_some_iff] at h
      obtain ⟨r, h1, rfl⟩ := h
      have := markS_len h1
      have := dropSp_len l
      simp only; omega
theorem listS_len {g : List UInt8 → Option (V × List UInt8)} (hg : Less g) : Less (listS g) := by
  intro l p h
  simp only [listS, Option.bind_eq_some_iff] at h
  obtain ⟨r, h1, h2⟩ := h
  have := markS_len h1
  split at h2
  · rename_i r2 hr2
    cases h2
    have := markS_len hr2
    simp only; omega
  · simp only [Option.bind_eq_some_iff] at h2
    obtain ⟨q, h3, h4⟩ := h2
    have := hg _ _ h3
    have := itemsS_len hg _ _ _ _ h4
    have := dropSp_len r
    omega
theorem memS_len {g : List UInt8 → Option (V × List UInt8)} (hg : Less g) (v : V) : Less (memS g v) := by
  intro l p h
  simp only [memS, Option.bind_eq_some_iff] at h
  obtain ⟨q, h1, r, h2, y, h3, h4⟩ := h
  split at h4
  · cases h4
  · cases h4
    have := quotS_len h1
    have := markS_len h2
    have := hg _ _ h3
    simp only; omega
theorem membsS_len {g : List UInt8 → Option (V × List UInt8)} (hg : Less g) (k : Nat) : ∀ (v : V) (l : List UInt8) (p : V × List UInt8), membsS g k v l = some p → p.2.length < l.length := by
  induction k with
  | zero => intro acc l p h; cases h
  | succ k ih =>
    intro acc l p h
    simp only [membsS] at h
    split at h
    · rename_i r hr
      simp only [Option.bind_eq_some_iff] at h
      obtain ⟨q, h1, h2⟩ := h
      have := memS_len hg _ _ _ h1
      have := ih _ _ _ h2
      have := markS_len hr
      omega
    · simp only [Option.map_eq_some_iff] at h
      obtain ⟨r, h1, rfl⟩ := h
      have := markS_len h1
      have := dropSp_len l
      simp only; omega
theorem objS_len {g : List UInt8 → Option (V × List UInt8)} (hg : Less g) : Less (objS g) := by
  intro l p h
  simp only [objS, Option.bind_eq_some_iff] at h
  obtain ⟨r, h1, h2⟩ := h
  have := markS_len h1
  split at h2
  · rename_i r2 hr2
    cases h2
    have := markS_len hr2
    simp only; omega
  · simp only [Option.bind_eq_some_iff] at h2
    obtain ⟨q, h3, h4⟩ := h2
    have := memS_len hg _ _ _ h3
    have := membsS_len hg _ _ _ _ h4
    have := dropSp_len r
    omega
theorem wordS_len {wd l r : List UInt8} (hw : 0 < wd.length) (h : wordS wd l = some r) : r.length < l.length := by
  unfold wordS at h
  split at h
  · rename_i hp
    cases h
    have := List.IsPrefix.length_le (List.isPrefixOf_iff_prefix.1 hp)
    rw [List.length_drop]; omega
  · cases h
theorem numS_len {l : List UInt8} {p : Int × List UInt8} (h : numS l = some p) : p.2.length < l.length := by
  unfold numS at h
  split at h
  · rename_i v hv
    split at h
    · rename_i he
      cases h
      have e : l = l.takeWhile isNum ++ l.dropWhile isNum := (List.takeWhile_append_dropWhile).symm
      have e2 := congrArg List.length e
      rw [List.length_append] at e2
      have : 0 < (l.takeWhile isNum).length := by
        cases ht : l.takeWhile isNum with
        | nil => rw [ht] at hv; exact absurd hv (atoi_nil v)
        | cons c r => simp
      simp only; omega
    · cases h
  · cases h
theorem oneS_len {g : List UInt8 → Option (V × List UInt8)} (hg : Less g) : Less (oneS g) := by
  intro l p h
  unfold oneS at h
  split at h
  · simp only [Option.map_eq_some_iff] at h; obtain ⟨r, h1, rfl⟩ := h; exact wordS_len (by simp) h1
  split at h
  · simp only [Option.map_eq_some_iff] at h; obtain ⟨r, h1, rfl⟩ := h; exact wordS_len (by simp) h1
  split at h
  · simp only [Option.map_eq_some_iff] at h; obtain ⟨r, h1, rfl⟩ := h; exact wordS_len (by simp) h1
  split at h
  · simp only [Option.map_eq_some_iff] at h; obtain ⟨r, h1, rfl⟩ := h; exact quotS_len h1
  split at h
  · exact listS_len hg _ _ h
  split at h
  · exact objS_len hg _ _ h
  · simp only [Option.map_eq_some_iff] at h; obtain ⟨r, h1, rfl⟩ := h; exact numS_len h1
theorem valS_len (f : Nat) : Less (valS f) := by
  induction f with
  | zero => intro l p h; cases h
  | succ f ih =>
    intro l p h
    have := oneS_len ih _ _ h
    have := dropSp_len l
    omega
end Go.Proofs.YtfbddgpekbhpfacGreatDoor
