/- What Parse of package json does. -/
import Derived.Lib.Bytealg
import Derived.Test.YtkboplcffailoaaGreatDoorAa
import Derived.WalkKit
import Derived.WalkSpells
import Derived.WalkLawsBesides
import Derived.Deep.QuietTactic
import Derived.BigQuiet
import Derived.Deep.LoopGhost
import Derived.Laws.IdiomStrings
import Derived.Laws.BytesArg
import Derived.Test.YtkboplcffailoaaGreatDoorVa
import Derived.Lib.AtoiErrMem
import Derived.Lib.ItoaLen
import Derived.Shelf.Strconv.ErrVarAll
import Derived.Test.YtkboplcffailoaaGreatDoorCc
import Derived.Test.YtkboplcffailoaaGreatDoorCp
import Derived.Test.YtkboplcffailoaaGreatDoorCh
import Derived.Deep.RegionLaw
import Derived.Deep.DeepCutAuto
import Derived.Deep.CutBlock
import Derived.Test.YtkboplcffailoaaGreatDoorCf
import Derived.Test.YtkboplcffailoaaGreatDoorGc
/- Plain functions on lists of bytes: what json's reader tells of a text. Nothing of the program stands here. -/
set_option linter.unusedSimpArgs false
set_option linter.unusedVariables false
namespace Go.Proofs.YtkboplcffailoaaGreatDoor

def isSp (c : UInt8) : Bool := c == 32 || c == 9 || c == 10 || c == 13

def markS (c : UInt8) (l : List UInt8) : Option (List UInt8) :=
  match l.dropWhile isSp with
  | [] => none
  | x :: r => if x = c then some r else none

/- A digit to the base sixteen. -/
def hexv (c : UInt8) : Option Nat :=
  if 48 ≤ c.toNat ∧ c.toNat ≤ 57 then some (c.toNat - 48)
  else if 97 ≤ c.toNat ∧ c.toNat ≤ 102 then some (c.toNat - 87)
  else if 65 ≤ c.toNat ∧ c.toNat ≤ 70 then some (c.toNat - 55) else none

def digS : List UInt8 → Option (Nat × List UInt8)
  | [] => none
  | c :: l => (hexv c).map fun d => (d, l)

def digsS : Nat → Nat → List UInt8 → Option (Nat × List UInt8)
  | 0, n, l => some (n, l)
  | k + 1, n, l => (digS l).bind fun p => digsS k (n * 16 + p.1) p.2

def codedS (l : List UInt8) : Option (UInt8 × List UInt8) :=
  (digsS 4 0 l).bind fun p => if p.1 < 128 then some (p.1.toUInt8, p.2) else none

def escB (c : UInt8) : Option UInt8 :=
  if c = 34 then some 34 else if c = 92 then some 92 else if c = 98 then some 8 else if c = 102 then some 12
  else if c = 110 then some 10 else if c = 114 then some 13 else if c = 116 then some 9 else none

def escS : List UInt8 → Option (UInt8 × List UInt8)
  | [] => none
  | c :: l => if c = 117 then codedS l else if c = 47 then some (47, l) else (escB c).map fun x => (x, l)

/- What stands in quotes, behind the first of them; with so many steps at most. -/
def bodyS : Nat → List UInt8 → List UInt8 → Option (List UInt8 × List UInt8)
  | 0, _, _ => none
  | _ + 1, _, [] => none
  | n + 1, acc, c :: l =>
    if c = 34 then some (acc, l)
    else if c = 92 then (escS l).bind fun p => bodyS n (acc ++ [p.1]) p.2
    else if c.toNat < 32 ∨ 127 ≤ c.toNat then none
    else bodyS n (acc ++ [c]) l

def quotS (l : List UInt8) : Option (List UInt8 × List UInt8) :=
  (markS 34 l).bind fun l => bodyS (l.length + 1) [] l

theorem digS_len {l : List UInt8} {p : Nat × List UInt8} (h : digS l = some p) : p.2.length < l.length := by
  cases l with
  | nil => cases h
  | cons c l =>
    simp only [digS, Option.map_eq_some_iff] at h
    obtain ⟨d, _, rfl⟩ := h
    simp
theorem digsS_len (k : Nat) : ∀ (n : Nat) (l : List UInt8) (p : Nat × List UInt8), digsS k n l = some p → p.2.length ≤ l.length := by
  induction k with
  | zero => intro n l p h; simp only [digsS, Option.some.injEq] at h; subst h; exact Nat.le_refl _
  | succ k ih =>
    intro n l p h
    simp only [digsS, Option.bind_eq_some_iff] at h
    obtain ⟨q, h1, h2⟩ := h
    exact Nat.le_trans (ih _ _ _ h2) (Nat.le_of_lt (digS_len h1))
theorem codedS_len {l : List UInt8} {p : UInt8 × List UInt8} (h : codedS l = some p) : p.2.length ≤ l.length := by
  simp only [codedS, Option.bind_eq_some_iff] at h
  obtain ⟨q, h1, h2⟩ := h
  split at h2
  · cases h2; exact digsS_len _ _ _ _ h1
  · cases h2
theorem escS_len {l : List UInt8} {p : UInt8 × List UInt8} (h : escS l = some p) : p.2.length < l.length := by
  cases l with
  | nil => cases h
  | cons c l =>
    simp only [escS] at h
    split at h
    · exact Nat.lt_succ_of_le (codedS_len h)
    · split at h
      · cases h; simp
      · simp only [Option.map_eq_some_iff] at h
        obtain ⟨d, _, rfl⟩ := h
        simp
theorem bodyS_fuel (n : Nat) : ∀ (m : Nat) (acc l : List UInt8), l.length < n → l.length < m → bodyS n acc l = bodyS m acc l := by
  induction n with
  | zero => intro m acc l h; omega
  | succ n ih =>
    intro m acc l h1 h2
    cases m with
    | zero => omega
    | succ m =>
      cases l with
      | nil => rfl
      | cons c l =>
        simp only [bodyS]
        simp only [List.length_cons] at h1 h2
        split
        · rfl
        · split
          · cases he : escS l with
            | none => rfl
            | some p =>
              have := escS_len he
              exact ih m _ _ (by omega) (by omega)
          · split
            · rfl
            · exact ih m _ _ (by omega) (by omega)
theorem bodyS_len (n : Nat) : ∀ (acc l : List UInt8) (p : List UInt8 × List UInt8), bodyS n acc l = some p → p.2.length < l.length := by
  induction n with
  | zero => intro acc l p h; cases h
  | succ n ih =>
    intro acc l p h
    cases l with
    | nil => cases h
    | cons c l =>
      simp only [bodyS] at h
      split at h
      · cases h; simp
      · split at h
        · simp only [Option.bind_eq_some_iff] at h
          obtain ⟨q, h1, h2⟩ := h
          have := ih _ _ _ h2
          have := escS_len h1
          simp only [List.length_cons]; omega
        · split at h
          · cases h
          · have := ih _ _ _ h
            simp only [List.length_cons]; omega
theorem dropSp_len (l : List UInt8) : (l.dropWhile isSp).length ≤ l.length := (List.dropWhile_sublist _).length_le
theorem markS_len {c : UInt8} {l r : List UInt8} (h : markS c l = some r) : r.length < l.length := by
  unfold markS at h
  have := dropSp_len l
  split at h
  · cases h
  · rename_i x t e
    split at h
    · cases h
      rw [e] at this
      simp only [List.length_cons] at this
      omega
    · cases h
theorem quotS_len {l : List UInt8} {p : List UInt8 × List UInt8} (h : quotS l = some p) : p.2.length < l.length := by
  simp only [quotS, Option.bind_eq_some_iff] at h
  obtain ⟨q, h1, h2⟩ := h
  have := bodyS_len _ _ _ _ h2
  have := markS_len h1
  omega
theorem isSp_index (c : UInt8) : (0 ≤ Lib.indexByte [32, 9, 10, 13] c) = (isSp c = true) := by
  simp only [Lib.indexByte, isSp, eq_iff_iff]
  by_cases h1 : c = 32
  · subst h1; decide
  by_cases h2 : c = 9
  · subst h2; decide
  by_cases h3 : c = 10
  · subst h3; decide
  by_cases h4 : c = 13
  · subst h4; decide
  simp [h1, h2, h3, h4, Ne.symm h1, Ne.symm h2, Ne.symm h3, Ne.symm h4]
end Go.Proofs.YtkboplcffailoaaGreatDoor

/- What the small methods of json's reader do: fail, ahead, next, spaces, mark, need. -/
set_option linter.unusedSimpArgs false
set_option linter.unusedVariables false
namespace Go.Proofs.YtkboplcffailoaaGreatDoor
open Go.RowKit

/- Block b is a reader of the text s, at the place i, with the mark bad. -/
def RdIs (w : World) (b : Nat) (s : ByteArray) (i : Nat) (bad : Bool) : Prop :=
  w.heap[b]? = some (.cells #[.string s, .int .i64 i, .bool bad] 53) ∧ i ≤ s.size ∧ s.size ≤ 2000

theorem RdIs.c {w : World} {b : Nat} {s : ByteArray} {i : Nat} {bad : Bool} (h : RdIs w b s i bad) :
    w.cell? ⟨b, 0, none⟩ = some (.string s) ∧ w.cell? ⟨b, 1, none⟩ = some (.int .i64 i) ∧ w.cell? ⟨b, 2, none⟩ = some (.bool bad) ∧ w.frozen? ⟨b, 1, none⟩ = false ∧ w.frozen? ⟨b, 2, none⟩ = false := by
  obtain ⟨h, _, _⟩ := h
  refine ⟨?_, ?_, ?_, ?_, ?_⟩ <;> simp [World.cell?, World.frozen?, h]

/- The same, and what is still to be read is l. -/
def RdAt (w : World) (b : Nat) (s : ByteArray) (l : List UInt8) (bad : Bool) : Prop := ∃ i, RdIs w b s i bad ∧ s.data.toList.drop i = l

theorem RdAt.of_heap {w w' : World} {b : Nat} {s : ByteArray} {l : List UInt8} {bad : Bool} (h : RdAt w b s l bad) (e : w'.heap[b]? = w.heap[b]?) : RdAt w' b s l bad := by
  obtain ⟨i, h, e2⟩ := h
  exact ⟨i, ⟨e.trans h.1, h.2⟩, e2⟩
theorem RdAt.lt {w : World} {b : Nat} {s : ByteArray} {l : List UInt8} {bad : Bool} (h : RdAt w b s l bad) : b < w.heap.size := by
  obtain ⟨i, h, e2⟩ := h
  exact (Array.getElem?_eq_some_iff.1 h.1).1
theorem RdAt.len {w : World} {b : Nat} {s : ByteArray} {l : List UInt8} {bad : Bool} (h : RdAt w b s l bad) : l.length ≤ s.size ∧ s.size ≤ 2000 := by
  obtain ⟨i, h, e2⟩ := h
  have e : s.data.toList.length = s.size := by simp only [Array.length_toList]; rfl
  have := congrArg List.length e2
  rw [List.length_drop, e] at this
  exact ⟨by omega, h.2.2⟩

theorem RdAt.nil {w : World} {b : Nat} {s : ByteArray} {bad : Bool} (h : RdAt w b s [] bad) : RdIs w b s s.size bad := by
  obtain ⟨i, h, e⟩ := h
  have e1 : s.data.toList.length ≤ i := List.drop_eq_nil_iff.1 e
  have h2 := h.2.1
  have e2 : s.data.toList.length = s.size := by simp only [Array.length_toList]; rfl
  have e : i = s.size := by omega
  subst e; exact h
theorem RdAt.cons {w : World} {b : Nat} {s : ByteArray} {c : UInt8} {l : List UInt8} {bad : Bool} (h : RdAt w b s (c :: l) bad) :
    ∃ i, RdIs w b s i bad ∧ (∃ hi : i < s.size, s[i] = c) ∧ s.data.toList.drop (i + 1) = l := by
  obtain ⟨i, h, e⟩ := h
  have hi : i < s.data.toList.length := by
    rcases Nat.lt_or_ge i s.data.toList.length with h | h
    · exact h
    · rw [List.drop_eq_nil_of_le h] at e; cases e
  rw [List.drop_eq_getElem_cons hi] at e
  simp only [List.cons.injEq] at e
  exact ⟨i, h, ⟨by rw [Array.length_toList] at hi; exact hi, e.1⟩, e.2⟩

set_option maxHeartbeats 400000 in
theorem fail_any (w : World) (b : Nat) (s : ByteArray) (i : Nat) (bad : Bool) (h : RdIs w b s i bad) :
    Calls Tryz.prog 52 #[.pointer (some ⟨b, 0, none⟩)] w fun e w' => e = .returned (.tuple #[]) ∧ RdIs w' b s s.size true ∧ w.grownBy w' (some b) := by
  obtain ⟨c0, c1, c2, f1, f2⟩ := h.c
  have H := hidI h
  have h3 := h.2.2
  clear h
  go_enter Tryz.func52, Tryz.ntmps52
  go_wp2
  go_end0
  exact ⟨rfl, ⟨heap_set (heap_set H.out.1 2 _) 1 _, Nat.le_refl _, H.out.2.2⟩, gb_set (gb_set (gb_refl _ _) _ _) _ _⟩

theorem fail_at (w : World) (b : Nat) (s : ByteArray) (l : List UInt8) (bad : Bool) (h : RdAt w b s l bad) :
    Calls Tryz.prog 52 #[.pointer (some ⟨b, 0, none⟩)] w fun e w' => e = .returned (.tuple #[]) ∧ RdAt w' b s [] true ∧ w.grownBy w' (some b) := by
  obtain ⟨i, h, _⟩ := h
  refine (fail_any w b s i bad h).mono ?_
  rintro e w' ⟨he, hr, hg⟩
  exact ⟨he, ⟨s.size, hr, List.drop_eq_nil_of_le (by simp only [Array.length_toList]; exact Nat.le_refl _)⟩, hg⟩

set_option maxHeartbeats 400000 in
theorem ahead_nil (w : World) (b : Nat) (s : ByteArray) (bad : Bool) (h : RdAt w b s [] bad) :
    Calls Tryz.prog 41 #[.pointer (some ⟨b, 0, none⟩)] w fun e w' => e = .returned (.int .u8 0) ∧ ∃ n, w' = w.drewN n := by
  obtain ⟨c0, c1, c2, f1, f2⟩ := h.nil.c
  clear h
  go_enter Tryz.func41, Tryz.ntmps41
  go_wp2
  go_quiet (fail)
  go_wp2
  go_ret
  exact ⟨rfl, nq, rfl⟩
set_option maxHeartbeats 400000 in
theorem ahead_cons (w : World) (b : Nat) (s : ByteArray) (c : UInt8) (l : List UInt8) (bad : Bool) (h : RdAt w b s (c :: l) bad) :
    Calls Tryz.prog 41 #[.pointer (some ⟨b, 0, none⟩)] w fun e w' => e = .returned (.int .u8 c.toNat) ∧ ∃ n, w' = w.drewN n := by
  obtain ⟨i, h, ⟨hi, hc⟩, hl⟩ := h.cons
  obtain ⟨c0, c1, c2, f1, f2⟩ := h.c
  have h3 := h.2.2
  have Hc := hidI hc
  clear h hl hc
  have e1 : ((i : Int) == (s.size : Int)) = false := by rw [beq_eq_false_iff_ne]; omega
  go_enter Tryz.func41, Tryz.ntmps41
  go_wp2
  go_quiet (fail)
  go_wp2
  go_quiet (fail)
  go_wp2
  go_ret
  exact ⟨by rw [Hc.out]; rfl, _, drewN_drewN _ _ _⟩

/- The byte that comes, 0 at the end. -/
def hd0 (l : List UInt8) : UInt8 := l.headD 0

theorem ahead_at (w : World) (b : Nat) (s : ByteArray) (l : List UInt8) (bad : Bool) (h : RdAt w b s l bad) :
    Calls Tryz.prog 41 #[.pointer (some ⟨b, 0, none⟩)] w fun e w' => e = .returned (.int .u8 (hd0 l).toNat) ∧ ∃ n, w' = w.drewN n := by
  cases l with
  | nil => exact ahead_nil w b s bad h
  | cons c l => exact ahead_cons w b s c l bad h

set_option maxHeartbeats 400000 in
theorem next_nil (w : World) (b : Nat) (s : ByteArray) (bad : Bool) (h : RdAt w b s [] bad) :
    Calls Tryz.prog 54 #[.pointer (some ⟨b, 0, none⟩)] w fun e w' => e = .returned (.int .u8 0) ∧ RdAt w' b s [] true ∧ w.grownBy w' (some b) := by
  obtain ⟨c0, c1, c2, f1, f2⟩ := h.nil.c
  have H := hidI h
  clear h
  go_enter Tryz.func54, Tryz.ntmps54
  go_wp2
  go_quiet (fail)
  go_wp2_with fail
  refine (fail_at _ b s [] bad (by exact H.out.of_heap rfl)).mono ?_
  rintro e w' ⟨rfl, hr, hg⟩
  go_wp2
  go_ret
  exact ⟨rfl, hr, gb_trans (gb_drewN (gb_refl _ _) _) hg⟩
set_option maxHeartbeats 400000 in
theorem next_cons (w : World) (b : Nat) (s : ByteArray) (c : UInt8) (l : List UInt8) (bad : Bool) (h : RdAt w b s (c :: l) bad) :
    Calls Tryz.prog 54 #[.pointer (some ⟨b, 0, none⟩)] w fun e w' => e = .returned (.int .u8 c.toNat) ∧ RdAt w' b s l bad ∧ w.grownBy w' (some b) := by
  obtain ⟨i, h, ⟨hi, hc⟩, hl⟩ := h.cons
  obtain ⟨c0, c1, c2, f1, f2⟩ := h.c
  have h3 := h.2.2
  have H := hidI h
  have Hc := hidI hc
  have Hl := hidI hl
  clear h hl hc
  have e1 : ((i : Int) == (s.size : Int)) = false := by rw [beq_eq_false_iff_ne]; omega
  go_enter Tryz.func54, Tryz.ntmps54
  go_wp2
  go_quiet (fail)
  go_wp2
  go_quiet (fail)
  go_wp2
  go_ret
  refine ⟨by rw [Hc.out]; rfl, ⟨i + 1, ⟨?_, by omega, H.out.2.2⟩, Hl.out⟩, gb_drewN (gb_set (gb_refl _ _) _ _) _⟩
  exact heap_set H.out.1 1 _

end Go.Proofs.YtkboplcffailoaaGreatDoor

/- What spaces, mark, need and word of json's reader do. -/
set_option linter.unusedSimpArgs false
set_option linter.unusedVariables false
namespace Go.Proofs.YtkboplcffailoaaGreatDoor
open Go.RowKit

set_option maxHeartbeats 1000000 in
theorem spaces_at (w : World) (b : Nat) (s : ByteArray) (l : List UInt8) (bad : Bool) (h : RdAt w b s l bad) :
    Calls Tryz.prog 30 #[.pointer (some ⟨b, 0, none⟩)] w fun e w' => e = .returned (.tuple #[]) ∧ RdAt w' b s (l.dropWhile isSp) bad ∧ w.grownBy w' (some b) := by
  have H := hidI h
  clear h
  go_enter Tryz.func30, Tryz.ntmps30
  go_wp2
  go_loopg [] l.length (fun k wr => ∃ l1, k = l1.length ∧ RdAt wr b s l1 bad ∧ l1.dropWhile isSp = l.dropWhile isSp ∧ w.grownBy wr (some b))
  case atStart => exact ⟨l, rfl, H.out, rfl, gb_refl _ _⟩
  case round =>
    obtain ⟨l1, hk, h1, he, hg⟩ := hrel
    have A : Hid (gk = l1.length ∧ RdAt wr b s l1 bad ∧ l1.dropWhile isSp = l.dropWhile isSp ∧ w.grownBy wr (some b)) := ⟨hk, h1, he, hg⟩
    clear hk he hg
    cases l1 with
    | nil =>
      obtain ⟨c0, c1, c2, f1, f2⟩ := h1.nil.c
      clear h1
      have e0 : decide ((s.size : Int) < (s.size : Int)) = false := by simp
      go_wp2_with fail
      go_quiet (fail)
      go_wp2
      go_end0
      obtain ⟨hk, h1, he, hg⟩ := A.out
      refine ⟨rfl, ?_, gb_drewN hg _⟩
      rw [← he]; exact h1.of_heap rfl
    | cons c l2 =>
      obtain ⟨i, h, ⟨hi, hc⟩, hl⟩ := h1.cons
      obtain ⟨c0, c1, c2, f1, f2⟩ := h.c
      have h3 := h.2.2
      have H1 := hidI h
      have Hc := hidI hc
      have Hl := hidI hl
      clear h h1 hl hc
      have e0 : (i : Int) < (s.size : Int) := by omega
      cases hsp : isSp c with
      | true =>
        have e2 : 0 ≤ Lib.indexByte [32, 9, 10, 13] s[i] := by rw [Hc.out, isSp_index]; exact hsp
        have S := hidI hsp
        clear hsp
        go_wp2_with fail
        go_quiet ((go_at_call 34; exact Calls.quiet_of_same (Tryz.strings_IndexByte _ _ _)))
        go_wp2_with fail
        obtain ⟨hk, h1, he, hg⟩ := A.out
        go_roundg l2.length
        case measure => rw [hk]; simp
        case rel =>
          refine ⟨l2, rfl, ⟨i + 1, ⟨heap_set H1.out.1 1 _, by omega, H1.out.2.2⟩, Hl.out⟩, ?_, gb_drewN (gb_set hg _ _) _⟩
          rw [← he, List.dropWhile_cons, if_pos S.out]
      | false =>
        have e2 : decide (0 ≤ Lib.indexByte [32, 9, 10, 13] s[i]) = false := decide_eq_false (by rw [Hc.out, isSp_index]; simp [hsp])
        have S := hidI hsp
        clear hsp
        go_wp2_with fail
        go_quiet ((go_at_call 34; exact Calls.quiet_of_same (Tryz.strings_IndexByte _ _ _)))
        go_wp2_with fail
        go_end0
        obtain ⟨hk, h1, he, hg⟩ := A.out
        refine ⟨rfl, ?_, gb_drewN hg _⟩
        rw [← he, List.dropWhile_cons, if_neg (by rw [S.out]; simp)]; exact h1.of_heap rfl

set_option maxHeartbeats 400000 in
theorem mark_at (w : World) (b : Nat) (s : ByteArray) (l : List UInt8) (bad : Bool) (m : Int) (c : UInt8) (hm : m = (c.toNat : Int)) (hc0 : c ≠ 0) (h : RdAt w b s l bad) :
    Calls Tryz.prog 56 #[.pointer (some ⟨b, 0, none⟩), .int .u8 m] w fun e w' => e = .returned (.bool (markS c l).isSome) ∧ RdAt w' b s ((markS c l).getD (l.dropWhile isSp)) bad ∧ w.grownBy w' (some b) := by
  have H := hidI h
  have M := hidI hm
  clear h hm
  go_enter Tryz.func56, Tryz.ntmps56
  go_wp2_with fail
  refine (spaces_at _ b s l bad (by exact H.out)).mono ?_
  rintro e w1 ⟨rfl, h1, hg1⟩
  have H1 := hidI h1
  have G1 := hidI hg1
  clear h1 hg1
  go_wp2_with fail
  refine (ahead_at _ b s _ bad (by exact H1.out)).mono ?_
  rintro e w2 ⟨rfl, n, rfl⟩
  cases hl : l.dropWhile isSp with
  | nil =>
    rw [hl] at H1
    have e1 : (((hd0 []).toNat : Int) != m) = true := by
      rw [M.out, bne_iff_ne]
      intro e
      exact hc0 (UInt8.toNat_inj.1 (by simp [hd0] at e ⊢; omega))
    have HL := hidI hl
    clear hl
    go_wp2
    go_ret
    exact ⟨by simp [markS, HL.out], by simp only [markS, HL.out]; exact H1.out.of_heap rfl, gb_drewN G1.out _⟩
  | cons x r =>
    rw [hl] at H1
    obtain ⟨i, h, ⟨hi, hc⟩, hr⟩ := H1.out.cons
    obtain ⟨c0, c1, c2, f1, f2⟩ := h.c
    have h3 := h.2.2
    have H2 := hidI h
    have Hr := hidI hr
    have HL := hidI hl
    clear h hl hr hc
    by_cases hx : x = c
    · have e1 : (((hd0 (x :: r)).toNat : Int) != m) = false := by rw [M.out, hx]; simp [hd0]
      have HX := hidI hx
      clear hx
      go_wp2
      go_ret
      exact ⟨by simp [markS, HL.out, HX.out], by simp only [markS, HL.out, HX.out]; exact ⟨i + 1, ⟨heap_set H2.out.1 1 _, by omega, H2.out.2.2⟩, Hr.out⟩, gb_drewN (gb_set G1.out _ _) _⟩
    · have e1 : (((hd0 (x :: r)).toNat : Int) != m) = true := by
        rw [M.out, bne_iff_ne]
        intro e
        exact hx (UInt8.toNat_inj.1 (by simp [hd0] at e ⊢; omega))
      have HX := hidI hx
      clear hx
      go_wp2
      go_ret
      exact ⟨by simp [markS, HL.out, HX.out], by simp only [markS, HL.out, HX.out]; exact H1.out.of_heap rfl, gb_drewN G1.out _⟩
end Go.Proofs.YtkboplcffailoaaGreatDoor

/- What need, digit, coded and escaped of json's reader do. -/
set_option linter.unusedSimpArgs false
set_option linter.unusedVariables false
namespace Go.Proofs.YtkboplcffailoaaGreatDoor
open Go.RowKit

/- A reader that has failed (none), or to which l is still to be read. -/
def RdSt (w : World) (b : Nat) (s : ByteArray) (st : Option (List UInt8)) : Prop := RdAt w b s (st.getD []) st.isNone

theorem RdSt.of_heap {w w' : World} {b : Nat} {s : ByteArray} {st : Option (List UInt8)} (h : RdSt w b s st) (e : w'.heap[b]? = w.heap[b]?) : RdSt w' b s st := RdAt.of_heap h e
theorem RdSt.lt {w : World} {b : Nat} {s : ByteArray} {st : Option (List UInt8)} (h : RdSt w b s st) : b < w.heap.size := RdAt.lt h
theorem RdSt.len {w : World} {b : Nat} {s : ByteArray} {l : List UInt8} (h : RdSt w b s (some l)) : l.length ≤ s.size ∧ s.size ≤ 2000 := RdAt.len h
theorem RdSt.grown {a w : World} {b : Nat} {s : ByteArray} {st : Option (List UInt8)} {r : Option Nat} (h : RdSt a b s st) (hg : a.grownBy w r) (hr : some b ≠ r) : RdSt w b s st := h.of_heap (hg.block b h.lt hr)
theorem gb_own {a w w' : World} {b : Nat} {row : Option Nat} (h : a.grownBy w (some b)) (hg : w.grownBy w' row) (hr : ∀ k, row = some k → a.heap.size ≤ k) : a.grownBy w' (some b) :=
  ⟨hg.os.trans h.os, hg.tape.trans h.tape, hg.output.trans h.output, Nat.le_trans h.size hg.size, fun i hi hb => (hg.block i (Nat.lt_of_lt_of_le hi h.size) (fun e => by have := hr i e.symm; omega)).trans (h.block i hi hb)⟩

theorem fail_st (w : World) (b : Nat) (s : ByteArray) (st : Option (List UInt8)) (h : RdSt w b s st) :
    Calls Tryz.prog 52 #[.pointer (some ⟨b, 0, none⟩)] w fun e w' => e = .returned (.tuple #[]) ∧ RdSt w' b s none ∧ w.grownBy w' (some b) :=
  fail_at w b s _ _ h

/- A byte, and what is left. -/
def nextS : List UInt8 → Option (UInt8 × List UInt8)
  | [] => none
  | c :: l => some (c, l)

theorem next_st (w : World) (b : Nat) (s : ByteArray) (st : Option (List UInt8)) (h : RdSt w b s st) :
    Calls Tryz.prog 54 #[.pointer (some ⟨b, 0, none⟩)] w fun e w' => ∃ (c : UInt8) (st' : Option (List UInt8)), e = .returned (.int .u8 c.toNat) ∧ st.bind nextS = st'.map (fun l => (c, l)) ∧ (st' = none → c = 0) ∧ RdSt w' b s st' ∧ w.grownBy w' (some b) := by
  match st, h with
  | none, h => exact (next_nil w b s true h).mono fun e w' ⟨he, hr, hg⟩ => ⟨0, none, he, rfl, fun _ => rfl, hr, hg⟩
  | some [], h => exact (next_nil w b s false h).mono fun e w' ⟨he, hr, hg⟩ => ⟨0, none, he, rfl, fun _ => rfl, hr, hg⟩
  | some (c :: l), h => exact (next_cons w b s c l false h).mono fun e w' ⟨he, hr, hg⟩ => ⟨c, some l, he, rfl, nofun, hr, hg⟩

theorem mark_st (w : World) (b : Nat) (s : ByteArray) (st : Option (List UInt8)) (m : Int) (c : UInt8) (hm : m = (c.toNat : Int)) (hc0 : c ≠ 0) (h : RdSt w b s st) :
    Calls Tryz.prog 56 #[.pointer (some ⟨b, 0, none⟩), .int .u8 m] w fun e w' => e = .returned (.bool (st.bind (markS c)).isSome) ∧
      RdSt w' b s (if (st.bind (markS c)).isSome then st.bind (markS c) else st.map (List.dropWhile isSp)) ∧ w.grownBy w' (some b) := by
  refine (mark_at w b s _ _ m c hm hc0 h).mono fun e w' ⟨he, hr, hg⟩ => ⟨?_, ?_, hg⟩
  · cases st with
    | none => exact he
    | some l => exact he
  · cases st with
    | none => exact hr
    | some l =>
      cases hk : markS c l with
      | none => simpa [RdSt, hk] using hr
      | some r => simpa [RdSt, hk] using hr

set_option maxHeartbeats 400000 in
theorem need_st (w : World) (b : Nat) (s : ByteArray) (st : Option (List UInt8)) (m : Int) (c : UInt8) (hm : m = (c.toNat : Int)) (hc0 : c ≠ 0) (h : RdSt w b s st) :
    Calls Tryz.prog 53 #[.pointer (some ⟨b, 0, none⟩), .int .u8 m] w fun e w' => e = .returned (.tuple #[]) ∧ RdSt w' b s (st.bind (markS c)) ∧ w.grownBy w' (some b) := by
  have H := hidI h
  have M := hidI hm
  clear h hm
  go_enter Tryz.func53, Tryz.ntmps53
  go_wp2_with fail
  refine (mark_st _ b s st m c M.out hc0 (by exact H.out)).mono ?_
  rintro e w1 ⟨rfl, h1, hg1⟩
  have H1 := hidI h1
  have G1 := hidI hg1
  clear h1 hg1
  cases hk : st.bind (markS c) with
  | none =>
    rw [hk] at H1
    go_wp2_with fail
    refine (fail_st _ b s _ (by exact H1.out)).mono ?_
    rintro e w2 ⟨rfl, h2, hg2⟩
    go_wp2_with fail
    go_end0
    exact ⟨rfl, by rw [hk]; exact h2, gb_trans G1.out hg2⟩
  | some r =>
    rw [hk] at H1
    go_wp2_with fail
    go_end0
    exact ⟨rfl, by rw [hk]; exact H1.out, G1.out⟩

theorem u8_all {p : UInt8 → Prop} (h : ∀ n : Fin 256, p (UInt8.ofNat n.val)) (c : UInt8) : p c := by
  have := h ⟨c.toNat, c.toNat_lt⟩
  simpa using this
theorem hex_index (c : UInt8) : Lib.indexByte [48, 49, 50, 51, 52, 53, 54, 55, 56, 57, 97, 98, 99, 100, 101, 102] (if 65 ≤ c.toNat ∧ c.toNat ≤ 70 then c + 32 else c) = (match hexv c with | some d => (d : Int) | none => -1) :=
  u8_all (p := fun c => Lib.indexByte [48, 49, 50, 51, 52, 53, 54, 55, 56, 57, 97, 98, 99, 100, 101, 102] (if 65 ≤ c.toNat ∧ c.toNat ≤ 70 then c + 32 else c) = (match hexv c with | some d => (d : Int) | none => -1)) (by decide +kernel) c
theorem hexv_lt (c : UInt8) (d : Nat) (h : hexv c = some d) : d < 16 := by
  simp only [hexv] at h
  split at h
  · cases h; omega
  · split at h
    · cases h; omega
    · split at h
      · cases h; omega
      · cases h
theorem idx_at (t : ByteArray) (m r : Int) (w : World) (h : Lib.indexByte t.data.toList m.toNat.toUInt8 = r) :
    Calls Tryz.prog 34 #[.string t, .int .u8 m] w fun e w' => e = .returned (.int .i64 r) ∧ w' = w := by
  subst h; exact Tryz.strings_IndexByte t m w
theorem hex_idx (c : UInt8) (m : Int) (hm : m = if 65 ≤ c.toNat ∧ c.toNat ≤ 70 then (c.toNat : Int) + 32 else c.toNat) :
    Lib.indexByte [48, 49, 50, 51, 52, 53, 54, 55, 56, 57, 97, 98, 99, 100, 101, 102] m.toNat.toUInt8 = (match hexv c with | some d => (d : Int) | none => -1) := by
  rw [← hex_index c]
  congr 1
  subst hm
  split
  · rename_i h
    apply UInt8.toNat_inj.1
    rw [UInt8.toNat_add]
    simp; omega
  · simp
theorem nextS_map {st st1 : Option (List UInt8)} {c : UInt8} {α : Type} (f : UInt8 → List UInt8 → Option α) (hs : st.bind nextS = st1.map (fun l => (c, l))) :
    (st.bind fun l => match l with | [] => none | c :: l => f c l) = st1.bind (f c) := by
  match st, st1, hs with
  | none, none, _ => rfl
  | some [], none, _ => rfl
  | some (x :: r), some l, hs => simp [nextS] at hs; obtain ⟨rfl, rfl⟩ := hs; rfl
theorem digS_next {st st1 : Option (List UInt8)} {c : UInt8} (hs : st.bind nextS = st1.map (fun l => (c, l))) :
    st.bind digS = st1.bind fun l => (hexv c).map fun d => (d, l) := by
  rw [← nextS_map (fun c l => (hexv c).map fun d => (d, l)) hs]
  cases st with
  | none => rfl
  | some l => cases l <;> rfl

set_option maxRecDepth 100000 in
set_option maxHeartbeats 400000 in
theorem digit_st (w : World) (b : Nat) (s : ByteArray) (st : Option (List UInt8)) (h : RdSt w b s st) :
    Calls Tryz.prog 79 #[.pointer (some ⟨b, 0, none⟩)] w fun e w' => ∃ (d : Nat) (st' : Option (List UInt8)), e = .returned (.int .i64 d) ∧ d < 16 ∧ st.bind digS = st'.map (fun l => (d, l)) ∧ RdSt w' b s st' ∧ w.grownBy w' (some b) := by
  have H := hidI h
  clear h
  go_enter Tryz.func79, Tryz.ntmps79
  go_wp2_with fail
  refine (next_st _ b s st (by exact H.out)).mono ?_
  rintro e w1 ⟨c, st1, rfl, hs, h0, h1, hg1⟩
  have hD := hidI (digS_next hs)
  have A : Hid ((st1 = none → c = 0) ∧ RdSt w1 b s st1 ∧ w.grownBy w1 (some b)) := ⟨h0, h1, hg1⟩
  clear hs h0 h1 hg1
  have hc256 : (c.toNat : Int) < 256 := by have := c.toNat_lt; omega
  have hidx := hidI (hex_idx c)
  cases hx : hexv c with
  | some d =>
    have hd := hexv_lt c d hx
    have hd0 : 0 ≤ (d : Int) := by omega
    rw [hx] at hidx hD
    have fin : Hid (∃ (d' : Nat) (st' : Option (List UInt8)), Ending.returned (Value.int .i64 d) = .returned (.int .i64 d') ∧ d' < 16 ∧ st.bind digS = st'.map (fun l => (d', l)) ∧ RdSt w1 b s st' ∧ w.grownBy w1 (some b)) := by
      refine ⟨d, st1, rfl, hd, ?_, A.out.2.1, A.out.2.2⟩
      rw [hD.out]; cases st1 <;> rfl
    clear hx
    by_cases hup : 65 ≤ c.toNat ∧ c.toNat ≤ 70
    · have hu1 : 65 ≤ (c.toNat : Int) := by omega
      have hu2 : (c.toNat : Int) ≤ 70 := by omega
      go_wp2_with fail
      refine (idx_at _ _ (d : Int) _ (by exact hidx.out _ (by rw [if_pos hup]))).mono ?_
      rintro e w2 ⟨rfl, rfl⟩
      go_wp2_with fail
      go_ret
      exact fin.out
    · have hu1 : ¬ (65 ≤ (c.toNat : Int) ∧ (c.toNat : Int) ≤ 70) := by omega
      by_cases hu2 : 65 ≤ (c.toNat : Int)
      · have hu3 : ¬ ((c.toNat : Int) ≤ 70) := by omega
        go_wp2_with fail
        refine (idx_at _ _ (d : Int) _ (by exact hidx.out _ (by rw [if_neg hup]))).mono ?_
        rintro e w2 ⟨rfl, rfl⟩
        go_wp2_with fail
        go_ret
        exact fin.out
      · go_wp2_with fail
        refine (idx_at _ _ (d : Int) _ (by exact hidx.out _ (by rw [if_neg hup]))).mono ?_
        rintro e w2 ⟨rfl, rfl⟩
        go_wp2_with fail
        go_ret
        exact fin.out
  | none =>
    rw [hx] at hidx hD
    have fin : Hid (∀ w2, RdSt w2 b s none → w1.grownBy w2 (some b) → ∃ (d' : Nat) (st' : Option (List UInt8)), Ending.returned (Value.int .i64 0) = .returned (.int .i64 d') ∧ d' < 16 ∧ st.bind digS = st'.map (fun l => (d', l)) ∧ RdSt w2 b s st' ∧ w.grownBy w2 (some b)) := by
      intro w2 h2 hg2
      refine ⟨0, none, rfl, by omega, ?_, h2, gb_trans A.out.2.2 hg2⟩
      rw [hD.out]; cases st1 <;> rfl
    clear hx
    by_cases hup : 65 ≤ c.toNat ∧ c.toNat ≤ 70
    · have hu1 : 65 ≤ (c.toNat : Int) := by omega
      have hu2 : (c.toNat : Int) ≤ 70 := by omega
      go_wp2_with fail
      refine (idx_at _ _ (-1) _ (by exact hidx.out _ (by rw [if_pos hup]))).mono ?_
      rintro e w2 ⟨rfl, rfl⟩
      go_wp2_with fail
      refine (fail_st _ b s _ (by exact A.out.2.1)).mono ?_
      rintro e w2 ⟨rfl, h2, hg2⟩
      go_wp2_with fail
      go_ret
      exact fin.out _ h2 hg2
    · have hu1 : ¬ (65 ≤ (c.toNat : Int) ∧ (c.toNat : Int) ≤ 70) := by omega
      by_cases hu2 : 65 ≤ (c.toNat : Int)
      · have hu3 : ¬ ((c.toNat : Int) ≤ 70) := by omega
        go_wp2_with fail
        refine (idx_at _ _ (-1) _ (by exact hidx.out _ (by rw [if_neg hup]))).mono ?_
        rintro e w2 ⟨rfl, rfl⟩
        go_wp2_with fail
        refine (fail_st _ b s _ (by exact A.out.2.1)).mono ?_
        rintro e w2 ⟨rfl, h2, hg2⟩
        go_wp2_with fail
        go_ret
        exact fin.out _ h2 hg2
      · go_wp2_with fail
        refine (idx_at _ _ (-1) _ (by exact hidx.out _ (by rw [if_neg hup]))).mono ?_
        rintro e w2 ⟨rfl, rfl⟩
        go_wp2_with fail
        refine (fail_st _ b s _ (by exact A.out.2.1)).mono ?_
        rintro e w2 ⟨rfl, h2, hg2⟩
        go_wp2_with fail
        go_ret
        exact fin.out _ h2 hg2
end Go.Proofs.YtkboplcffailoaaGreatDoor

/- What coded and escaped of json's reader do. -/
set_option linter.unusedSimpArgs false
set_option linter.unusedVariables false
namespace Go.Proofs.YtkboplcffailoaaGreatDoor
open Go.RowKit

theorem digsS_step {st st1 st2 : Option (List UInt8)} {j n d : Nat} (h4 : j < 4) (h : st.bind (digsS 4 0) = st1.bind (digsS (4 - j) n)) (hd : st1.bind digS = st2.map (fun l => (d, l))) :
    st.bind (digsS 4 0) = st2.bind (digsS (4 - (j + 1)) (n * 16 + d)) := by
  rw [h]
  have e : 4 - j = (4 - (j + 1)) + 1 := by omega
  rw [e]
  cases st1 with
  | none => cases st2 with
    | none => rfl
    | some l => cases hd
  | some l =>
    show digsS (4 - (j + 1) + 1) n l = _
    rw [digsS]
    have hd' : digS l = st2.map (fun l => (d, l)) := hd
    rw [hd']
    cases st2 <;> rfl
theorem codedS_of {st st1 : Option (List UInt8)} {n : Nat} (h : st.bind (digsS 4 0) = st1.bind (digsS 0 n)) :
    st.bind codedS = st1.bind fun l => if n < 128 then some (n.toUInt8, l) else none := by
  cases st with
  | none => cases st1 with
    | none => rfl
    | some l => cases h
  | some l =>
    have h' : digsS 4 0 l = st1.bind (digsS 0 n) := h
    show codedS l = _
    rw [codedS, h']
    cases st1 <;> rfl

set_option maxRecDepth 100000 in
set_option maxHeartbeats 400000 in
theorem coded_st (w : World) (b : Nat) (s : ByteArray) (st : Option (List UInt8)) (h : RdSt w b s st) :
    Calls Tryz.prog 68 #[.pointer (some ⟨b, 0, none⟩)] w fun e w' => ∃ (c : UInt8) (st' : Option (List UInt8)), e = .returned (.int .u8 c.toNat) ∧ st.bind codedS = st'.map (fun l => (c, l)) ∧ RdSt w' b s st' ∧ w.grownBy w' (some b) := by
  have H := hidI h
  clear h
  go_enter Tryz.func68, Tryz.ntmps68
  go_wp2_with fail
  go_loopg [3, 4] 4 (fun k n i wr => ∃ (j m : Nat) (st1 : Option (List UInt8)), n = .int .i64 m ∧ i = .int .i64 j ∧ j ≤ 4 ∧ k = 4 - j ∧ m < 16 ^ j ∧ st.bind (digsS 4 0) = st1.bind (digsS (4 - j) m) ∧ RdSt wr b s st1 ∧ w.grownBy wr (some b))
  case atStart => exact ⟨0, 0, st, rfl, rfl, by omega, rfl, by decide, rfl, H.out, gb_refl _ _⟩
  case round =>
    obtain ⟨j, m, st1, rfl, rfl, hj, hk, hm, hs, h1, hg⟩ := hrel
    have hm4 : m < 65536 := Nat.lt_of_lt_of_le hm (Nat.pow_le_pow_right (n := 16) (by omega) hj)
    have A : Hid (gk = 4 - j ∧ m < 16 ^ j ∧ st.bind (digsS 4 0) = st1.bind (digsS (4 - j) m) ∧ RdSt wr b s st1 ∧ w.grownBy wr (some b)) := ⟨hk, hm, hs, h1, hg⟩
    clear hk hm hs h1 hg
    by_cases hlt : j < 4
    · go_wp2_with fail
      refine (digit_st _ b s st1 (by exact A.out.2.2.2.1)).mono ?_
      rintro e w1 ⟨d, st2, rfl, hd, hs2, h2, hg2⟩
      have B : Hid (st1.bind digS = st2.map (fun l => (d, l)) ∧ RdSt w1 b s st2 ∧ wr.grownBy w1 (some b)) := ⟨hs2, h2, hg2⟩
      clear hs2 h2 hg2
      go_wp2_with fail
      obtain ⟨hk, hm, hs, h1, hg⟩ := A.out
      obtain ⟨hs2, h2, hg2⟩ := B.out
      go_roundg (4 - (j + 1))
      case measure => omega
      case rel =>
        refine ⟨j + 1, m * 16 + d, st2, by go_num, by go_num, by omega, rfl, ?_, digsS_step hlt hs hs2, h2, gb_trans hg hg2⟩
        rw [Nat.pow_succ]; omega
    · have hj4 : j = 4 := by omega
      subst hj4
      have hcs := hidI (codedS_of A.out.2.2.1)
      by_cases h128 : m < 128
      · go_wp2_with fail
        go_ret
        obtain ⟨hk, hm, hs, h1, hg⟩ := A.out
        refine ⟨m.toUInt8, st1, ?_, ?_, h1, hg⟩
        · have : m.toUInt8.toNat = m := by simp; omega
          rw [this]; rfl
        · rw [hcs.out]; cases st1 <;> simp [h128]
      · go_wp2_with fail
        refine (fail_st _ b s _ (by exact A.out.2.2.2.1)).mono ?_
        rintro e w2 ⟨rfl, h2, hg2⟩
        go_wp2_with fail
        go_ret
        obtain ⟨hk, hm, hs, h1, hg⟩ := A.out
        refine ⟨0, none, rfl, ?_, h2, gb_trans hg hg2⟩
        rw [hcs.out]; cases st1 <;> simp [h128]

theorem escS_next {st st1 : Option (List UInt8)} {c : UInt8} (hs : st.bind nextS = st1.map (fun l => (c, l))) :
    st.bind escS = st1.bind fun l => if c = 117 then codedS l else if c = 47 then some (47, l) else (escB c).map fun x => (x, l) := by
  rw [← nextS_map (fun c l => if c = 117 then codedS l else if c = 47 then some (47, l) else (escB c).map fun x => (x, l)) hs]
  cases st with
  | none => rfl
  | some l => cases l <;> rfl
theorem u8_back (c : UInt8) : (c.toNat : Int).toNat.toUInt8 = c := by simp
theorem u8_ne {c d : UInt8} {m : Int} (hm : m = (d.toNat : Int)) (h : c ≠ d) : ((c.toNat : Int) == m) = false := by
  rw [beq_eq_false_iff_ne, hm]; intro e; exact h (UInt8.toNat_inj.1 (by omega))
theorem let_index (c : UInt8) : escB c = none → Lib.indexByte [34, 92, 98, 102, 110, 114, 116] c = -1 :=
  u8_all (p := fun c => escB c = none → Lib.indexByte [34, 92, 98, 102, 110, 114, 116] c = -1) (by decide +kernel) c
theorem escB_cases (c : UInt8) : escB c = none ∨ c = 34 ∨ c = 92 ∨ c = 98 ∨ c = 102 ∨ c = 110 ∨ c = 114 ∨ c = 116 :=
  u8_all (p := fun c => escB c = none ∨ c = 34 ∨ c = 92 ∨ c = 98 ∨ c = 102 ∨ c = 110 ∨ c = 114 ∨ c = 116) (by decide +kernel) c

set_option maxRecDepth 100000 in
set_option maxHeartbeats 1000000 in
theorem escaped_st (w : World) (b : Nat) (s : ByteArray) (st : Option (List UInt8)) (h : RdSt w b s st) :
    Calls Tryz.prog 55 #[.pointer (some ⟨b, 0, none⟩)] w fun e w' => ∃ (c : UInt8) (st' : Option (List UInt8)), e = .returned (.int .u8 c.toNat) ∧ st.bind escS = st'.map (fun l => (c, l)) ∧ RdSt w' b s st' ∧ w.grownBy w' (some b) := by
  have H := hidI h
  clear h
  go_enter Tryz.func55, Tryz.ntmps55
  go_wp2_with fail
  refine (next_st _ b s st (by exact H.out)).mono ?_
  rintro e w1 ⟨c, st1, rfl, hs, h0, h1, hg1⟩
  have E := hidI (escS_next hs)
  have A : Hid (RdSt w1 b s st1 ∧ w.grownBy w1 (some b)) := ⟨h1, hg1⟩
  clear hs h0 h1 hg1
  by_cases c1 : c = 117
  · subst c1
    go_wp2_with fail
    refine (coded_st _ b s st1 (by exact A.out.1)).mono ?_
    rintro e w2 ⟨x, st2, rfl, hs2, h2, hg2⟩
    have B : Hid (st1.bind codedS = st2.map (fun l => (x, l)) ∧ RdSt w2 b s st2 ∧ w1.grownBy w2 (some b)) := ⟨hs2, h2, hg2⟩
    clear hs2 h2 hg2
    go_wp2_with fail
    go_ret
    obtain ⟨hs2, h2, hg2⟩ := B.out
    exact ⟨x, st2, rfl, by rw [E.out, ← hs2]; rfl, h2, gb_trans A.out.2 hg2⟩
  have n1 := u8_ne (m := 117) rfl c1
  by_cases c2 : c = 47
  · subst c2
    go_wp2_with fail
    go_ret
    exact ⟨47, st1, rfl, by rw [E.out]; cases st1 <;> rfl, A.out.1, A.out.2⟩
  have n2 := u8_ne (m := 47) rfl c2
  have E2 : Hid (st.bind escS = st1.bind fun l => (escB c).map fun x => (x, l)) := by
    have e := E.out
    rw [e]
    cases st1 with
    | none => rfl
    | some l => show (if c = 117 then _ else _) = _; rw [if_neg c1, if_neg c2]; rfl
  clear E c1 c2
  rcases escB_cases c with hn | rfl | rfl | rfl | rfl | rfl | rfl | rfl
  · have L := hidI (let_index c hn)
    rw [hn] at E2
    clear hn
    go_wp2_with fail
    refine (idx_at _ _ (-1) _ (by rw [u8_back]; exact L.out)).mono ?_
    rintro e w2 ⟨rfl, rfl⟩
    go_wp2_with fail
    refine (fail_st _ b s _ (by exact A.out.1)).mono ?_
    rintro e w2 ⟨rfl, h2, hg2⟩
    go_wp2_with fail
    go_ret
    exact ⟨0, none, rfl, by rw [E2.out]; cases st1 <;> rfl, h2, gb_trans A.out.2 hg2⟩
  · clear n1 n2
    go_wp2_with fail
    refine (idx_at _ _ 0 _ (by rfl)).mono ?_
    rintro e w2 ⟨rfl, rfl⟩
    go_wp2_with fail
    go_ret
    exact ⟨34, st1, rfl, by rw [E2.out]; cases st1 <;> rfl, A.out.1, A.out.2⟩
  · clear n1 n2
    go_wp2_with fail
    refine (idx_at _ _ 1 _ (by rfl)).mono ?_
    rintro e w2 ⟨rfl, rfl⟩
    go_wp2_with fail
    go_ret
    exact ⟨92, st1, rfl, by rw [E2.out]; cases st1 <;> rfl, A.out.1, A.out.2⟩
  · clear n1 n2
    go_wp2_with fail
    refine (idx_at _ _ 2 _ (by rfl)).mono ?_
    rintro e w2 ⟨rfl, rfl⟩
    go_wp2_with fail
    go_ret
    exact ⟨8, st1, rfl, by rw [E2.out]; cases st1 <;> rfl, A.out.1, A.out.2⟩
  · clear n1 n2
    go_wp2_with fail
    refine (idx_at _ _ 3 _ (by rfl)).mono ?_
    rintro e w2 ⟨rfl, rfl⟩
    go_wp2_with fail
    go_ret
    exact ⟨12, st1, rfl, by rw [E2.out]; cases st1 <;> rfl, A.out.1, A.out.2⟩
  · clear n1 n2
    go_wp2_with fail
    refine (idx_at _ _ 4 _ (by rfl)).mono ?_
    rintro e w2 ⟨rfl, rfl⟩
    go_wp2_with fail
    go_ret
    exact ⟨10, st1, rfl, by rw [E2.out]; cases st1 <;> rfl, A.out.1, A.out.2⟩
  · clear n1 n2
    go_wp2_with fail
    refine (idx_at _ _ 5 _ (by rfl)).mono ?_
    rintro e w2 ⟨rfl, rfl⟩
    go_wp2_with fail
    go_ret
    exact ⟨13, st1, rfl, by rw [E2.out]; cases st1 <;> rfl, A.out.1, A.out.2⟩
  · clear n1 n2
    go_wp2_with fail
    refine (idx_at _ _ 6 _ (by rfl)).mono ?_
    rintro e w2 ⟨rfl, rfl⟩
    go_wp2_with fail
    go_ret
    exact ⟨9, st1, rfl, by rw [E2.out]; cases st1 <;> rfl, A.out.1, A.out.2⟩
end Go.Proofs.YtkboplcffailoaaGreatDoor

/- What quoted of json's reader does. -/
set_option linter.unusedSimpArgs false
set_option linter.unusedVariables false
namespace Go.Proofs.YtkboplcffailoaaGreatDoor
open Go.RowKit

theorem infoByte : (Tryz.prog.info? 5).map (fun i => (i.zero, i.size, i.bytes)) = some (some (.int .u8 0), 1, 1) := by kernel_rfl

/- The steps that are still to come, of what is still to be read. -/
def togo : Option (List UInt8) → Nat
  | none => 0
  | some l => l.length + 1

def restS (acc : List UInt8) (st : Option (List UInt8)) : Option (List UInt8 × List UInt8) := st.bind fun l => bodyS (l.length + 1) acc l

theorem restS_quote (acc l : List UInt8) : restS acc (some (34 :: l)) = some (acc, l) := by simp [restS, bodyS]
theorem restS_plain (acc l : List UInt8) (c : UInt8) (h1 : c ≠ 34) (h2 : c ≠ 92) (h3 : ¬ (c.toNat < 32 ∨ 127 ≤ c.toNat)) : restS acc (some (c :: l)) = restS (acc ++ [c]) (some l) := by
  simp only [restS, Option.bind_some, bodyS, if_neg h1, if_neg h2, if_neg h3]
  exact bodyS_fuel _ _ _ _ (by simp) (by simp)
theorem restS_bad (acc l : List UInt8) (c : UInt8) (h1 : c ≠ 34) (h2 : c ≠ 92) (h3 : c.toNat < 32 ∨ 127 ≤ c.toNat) : restS acc (some (c :: l)) = none := by
  simp only [restS, Option.bind_some, bodyS, if_neg h1, if_neg h2, if_pos h3]
theorem restS_esc (acc l : List UInt8) (x : UInt8) (st : Option (List UInt8)) (h : (some l).bind escS = st.map (fun l => (x, l))) : restS acc (some (92 :: l)) = restS (acc ++ [x]) st := by
  have h' : escS l = st.map (fun l => (x, l)) := h
  have e34 : ¬ ((92 : UInt8) = 34) := by decide
  simp only [restS, Option.bind_some, bodyS, if_neg e34, if_true, h']
  cases st with
  | none => rfl
  | some r =>
    have hl := escS_len h'
    exact bodyS_fuel _ _ _ _ (by simp only at hl; simp; omega) (by simp)
theorem esc_togo {l : List UInt8} {x : UInt8} {st : Option (List UInt8)} (h : (some l).bind escS = st.map (fun l => (x, l))) : togo st < l.length + 1 := by
  have h' : escS l = st.map (fun l => (x, l)) := h
  cases st with
  | none => simp [togo]
  | some r => have hl := escS_len h'; simp only at hl; simp [togo]; omega

theorem byteCells_one (l : List UInt8) (c : UInt8) : Lib.byteCells l ++ [Value.int .u8 c.toNat] = Lib.byteCells (l ++ [c]) := by simp [Lib.byteCells]

theorem own_kept {a w w' : World} {b : Nat} {e : TypeId} {size : Nat} {v : Value} {n : Nat} {xs : List Value} (h : w.ownsRow a.heap.size e size v n xs) (hg : w.grownBy w' (some b)) (hb : b < a.heap.size) : w'.ownsRow a.heap.size e size v n xs := by
  refine h.kept hg ?_
  cases hv : v.ownBlock with
  | none => exact .inl rfl
  | some k =>
    right
    intro e
    cases e
    have := (h.lt b hv).1
    omega

/- One byte more, behind a row of bytes that the call has made. -/
theorem append_byte {w : World} {ops : Array Oper} {rest : List Oper} {o : Oper} {a : Act} {Q : Exit → Act → World → Prop} (hgd : o.guard = none) (s x : Operand)
    (ho : o.op = .call { callee := .builtin .append, args := #[s, x], argTypes := #[34, 34] }) (B : Nat) (v : Value) (acc : List UInt8) (c : UInt8) (hs : a.eval s = v)
    (hx : a.eval x = .slice (some ⟨w.heap.size, 0, none⟩) 1 1) (hown : w.ownsRow B 5 1 v acc.length (Lib.byteCells acc)) (hB : B ≤ w.heap.size) (hl : acc.length ≤ 1000000000)
    (hK : ∀ v' w', w'.ownsRow B 5 1 v' (acc ++ [c]).length (Lib.byteCells (acc ++ [c])) → w.grownBy w' v.ownBlock → wpList Tryz.prog ops Q rest (a.put o.dst v') w') :
    wpList Tryz.prog ops Q (o :: rest) a (w.alloc (.cells #[.int .u8 c.toNat] 5)) := by
  obtain ⟨i0, hi, hz0, hz1, hz2⟩ := info_parts infoByte
  refine wpList_append_own _ hgd s x 34 ho B 5 i0 (.int .u8 0) 1 1 Tryz.underlying34 hi hz0 hz1 hz2 rfl (by decide) v acc.length (Lib.byteCells acc) hs (hown.alloc _) ⟨w.heap.size, 0, none⟩ 1 1 [Value.int .u8 c.toNat] hx rfl
    (by intro j u' hj; match j, hj with | 0, hj => simp at hj; subst hj; simp [Addr.add]) (by intro u' hu'; simp at hu'; subst hu'; rfl) (by unfold maxLen; omega) (by omega) (by simp; omega) ?_
  intro v2 w2 hown2 hgrow _
  refine hK v2 w2 ?_ (gb_trans (World.grownBy_alloc w _ _) hgrow)
  rw [byteCells_one] at hown2
  simpa using hown2

/- What holds ahead of each round. -/
def QuotI (w : World) (b : Nat) (s : ByteArray) (T : Option (List UInt8 × List UInt8)) (k : Nat) (v : Value) (wr : World) : Prop :=
  ∃ (acc : List UInt8) (st : Option (List UInt8)), k = togo st ∧ acc.length + k ≤ 2002 ∧ restS acc st = T ∧ wr.ownsRow w.heap.size 5 1 v acc.length (Lib.byteCells acc) ∧ RdSt wr b s st ∧ w.grownBy wr (some b)

set_option maxRecDepth 100000 in
set_option maxHeartbeats 2000000 in
theorem quoted_st (w : World) (b : Nat) (s : ByteArray) (st : Option (List UInt8)) (h : RdSt w b s st) :
    Calls Tryz.prog 43 #[.pointer (some ⟨b, 0, none⟩)] w fun e w' => ∃ (t : List UInt8) (st' : Option (List UInt8)), e = .returned (.string ⟨t.toArray⟩) ∧ st.bind quotS = st'.map (fun l => (t, l)) ∧ t.length ≤ 2002 ∧ RdSt w' b s st' ∧ w.grownBy w' (some b) := by
  obtain ⟨i0, hi, hz0, hz1, hz2⟩ := info_parts infoByte
  have H := hidI h
  have hbl := h.lt
  clear h
  go_enter Tryz.func43, Tryz.ntmps43
  go_wp2_with fail
  refine (need_st _ b s st 34 34 rfl (by decide) (by exact H.out)).mono ?_
  rintro e w1 ⟨rfl, h1, hg1⟩
  have H1 := hidI h1
  have G1 := hidI hg1
  have hT : Hid (st.bind quotS = restS [] (st.bind (markS 34))) := by
    cases st with
    | none => rfl
    | some l => show quotS l = _; rw [quotS]; rfl
  clear h1 hg1
  go_wp2_with fail
  go_loopg [3] (togo (st.bind (markS 34))) (fun k v wr => QuotI w b s (restS [] (st.bind (markS 34))) k v wr)
  case atStart =>
    refine ⟨[], st.bind (markS 34), rfl, ?_, rfl, World.ownsRow_nil _ _ _ _, H1.out, G1.out⟩
    cases hk : st.bind (markS 34) with
    | none => simp [togo]
    | some l =>
      have h1 := H1.out
      rw [hk] at h1
      have := h1.len
      simp [togo]; omega
  case round =>
    obtain ⟨acc, st1, hk, hb, hr, hown, h2, hg2⟩ := hrel
    have A : Hid (gk = togo st1 ∧ acc.length + gk ≤ 2002 ∧ restS acc st1 = restS [] (st.bind (markS 34)) ∧ wr.ownsRow w.heap.size 5 1 u3 acc.length (Lib.byteCells acc) ∧ RdSt wr b s st1 ∧ w.grownBy wr (some b)) := ⟨hk, hb, hr, hown, h2, hg2⟩
    clear hk hb hr hown hg2
    cases st1 with
    | none =>
      obtain ⟨c0, c1, c2, f1, f2⟩ := (RdAt.nil h2).c
      clear h2
      go_wp2_with fail
      go_ret
      obtain ⟨hk, hb, hr, hown, h2, hg2⟩ := A.out
      exact ⟨[], none, rfl, by rw [hT.out, ← hr]; rfl, by simp, h2, hg2⟩
    | some l =>
      have h4 := hidI h2
      obtain ⟨i, h3, e3⟩ := h2
      obtain ⟨c0, c1, c2, f1, f2⟩ := h3.c
      clear h3 e3
      go_wp2_with fail
      clear c0 c1 c2 f1 f2
      cases l with
      | nil =>
        refine (next_nil _ b s false (by exact h4.out)).mono ?_
        rintro e w2 ⟨rfl, h5, hg5⟩
        have B : Hid (RdSt w2 b s none ∧ wr.grownBy w2 (some b)) := ⟨h5, hg5⟩
        clear h5 hg5
        go_wp2_with fail
        refine (fail_st _ b s _ (by exact B.out.1)).mono ?_
        rintro e w3 ⟨rfl, h6, hg6⟩
        have C : Hid (RdSt w3 b s none ∧ w2.grownBy w3 (some b)) := ⟨h6, hg6⟩
        clear h6 hg6
        go_wp2_with fail
        obtain ⟨hk, hb, hr, hown, h2, hg2⟩ := A.out
        go_roundg 0
        case measure => rw [hk]; simp [togo]
        case rel => exact ⟨acc, none, rfl, by omega, hr, own_kept (own_kept hown B.out.2 hbl) C.out.2 hbl, C.out.1, gb_trans (gb_trans hg2 B.out.2) C.out.2⟩
      | cons c l =>
        refine (next_cons _ b s c l false (by exact h4.out)).mono ?_
        rintro e w2 ⟨rfl, h5, hg5⟩
        have B : Hid (RdSt w2 b s (some l) ∧ wr.grownBy w2 (some b)) := ⟨h5, hg5⟩
        clear h5 hg5
        by_cases e1 : c = 34
        · subst e1
          obtain ⟨hk, hb, hr, hown, h2, hg2⟩ := A.out
          have hown2 := own_kept hown B.out.2 hbl
          rcases hown2.2 with ⟨hv, hn⟩ | ⟨g, cap, cur, hv, -, -, -, -, -, -⟩
          · have hacc : acc = [] := List.eq_nil_of_length_eq_zero hn
            subst hv
            clear hk hb hr hown h2 hg2 hown2 hn
            have hcv := run_convert_bytes_nil (P := Tryz.prog) (w := w2) 34 5 Tryz.underlying34 Tryz.underlying5 0 0
            go_wp2_with fail
            go_ret
            obtain ⟨hk, hb, hr, hown, h2, hg2⟩ := A.out
            subst hacc
            exact ⟨[], some l, rfl, by rw [hT.out, ← hr, restS_quote]; rfl, by simp, B.out.1, gb_trans hg2 B.out.2⟩
          · subst hv
            have hcv := run_convert_bytes_back (P := Tryz.prog) w2 34 9 5 ⟨g, 0, none⟩ cap acc Tryz.underlying34 Tryz.underlying5 Tryz.underlying9 (fun j hj => hown2.cells (g := g) rfl j _ (by simp [Lib.byteCells, hj]))
            clear hk hb hr hown h2 hg2 hown2
            go_wp2_with fail
            go_ret
            obtain ⟨hk, hb, hr, hown, h2, hg2⟩ := A.out
            exact ⟨acc, some l, rfl, by rw [hT.out, ← hr, restS_quote]; rfl, by omega, B.out.1, gb_trans hg2 B.out.2⟩
        have n1 := u8_ne (m := 34) rfl e1
        by_cases e2 : c = 92
        · subst e2
          go_wp2_with fail
          refine (escaped_st _ b s (some l) (by exact B.out.1)).mono ?_
          rintro e w3 ⟨x, st3, rfl, hs3, h6, hg6⟩
          have C : Hid ((some l).bind escS = st3.map (fun l => (x, l)) ∧ RdSt w3 b s st3 ∧ w2.grownBy w3 (some b)) := ⟨hs3, h6, hg6⟩
          clear hs3 h6 hg6
          have hown3 : w3.ownsRow w.heap.size 5 1 u3 acc.length (Lib.byteCells acc) := own_kept (own_kept A.out.2.2.2.1 B.out.2 hbl) C.out.2.2 hbl
          have gw3 : w.grownBy w3 (some b) := gb_trans (gb_trans A.out.2.2.2.2.2 B.out.2) C.out.2.2
          have hB3 := gw3.size
          have hl3 : acc.length ≤ 1000000000 := by have := A.out.2.1; omega
          have O3 := hidI hown3
          have G3 := hidI gw3
          clear hown3 gw3
          go_wp2_with (at_builtin; go_must (refine append_byte rfl _ _ rfl w.heap.size u3 acc x rfl rfl O3.out hB3 hl3 ?_); intro v4 w4 hown4 hgrow4; refine Hid.out ?_)
          refine hidI ?_
          have D : Hid (w4.ownsRow w.heap.size 5 1 v4 (acc ++ [x]).length (Lib.byteCells (acc ++ [x])) ∧ w3.grownBy w4 u3.ownBlock) := ⟨hown4, hgrow4⟩
          clear hown4 hgrow4
          go_wp2_with fail
          obtain ⟨hk, hb, hr, hown, h2, hg2⟩ := A.out
          go_roundg (togo st3)
          case measure => rw [hk]; exact Nat.lt_trans (esc_togo C.out.1) (by simp [togo])
          case rel =>
            refine ⟨acc ++ [x], st3, rfl, ?_, ?_, D.out.1, ?_, ?_⟩
            · have h9 := esc_togo C.out.1
              have h8 : togo (some ((92 : UInt8) :: l)) = l.length + 2 := rfl
              rw [hk, h8] at hb
              simp only [List.length_append, List.length_cons, List.length_nil]; omega
            · rw [← hr, restS_esc acc l x st3 C.out.1]
            · exact C.out.2.1.grown D.out.2 (fun e => by have := (O3.out.lt b e.symm).1; omega)
            · exact gb_own G3.out D.out.2 (fun k hk => (O3.out.lt k hk).1)
        have n2 := u8_ne (m := 92) rfl e2
        by_cases e3 : c.toNat < 32 ∨ 127 ≤ c.toNat
        · have F : Hid (restS acc (some (c :: l)) = none) := restS_bad acc l c e1 e2 e3
          have go1 : Hid (∀ w3, RdSt w3 b s none → w2.grownBy w3 (some b) → QuotI w b s (restS [] (st.bind (markS 34))) 0 u3 w3) := by
            intro w3 h6 hg6
            obtain ⟨hk, hb, hr, hown, h2, hg2⟩ := A.out
            exact ⟨acc, none, rfl, by omega, by rw [← hr, F.out]; rfl, own_kept (own_kept hown B.out.2 hbl) hg6 hbl, h6, gb_trans (gb_trans hg2 B.out.2) hg6⟩
          by_cases e4 : c.toNat < 32
          · have e5 : (c.toNat : Int) < 32 := by omega
            clear e3
            go_wp2_with fail
            refine (fail_st _ b s _ (by exact B.out.1)).mono ?_
            rintro e w3 ⟨rfl, h6, hg6⟩
            have C : Hid (RdSt w3 b s none ∧ w2.grownBy w3 (some b)) := ⟨h6, hg6⟩
            clear h6 hg6
            go_wp2_with fail
            go_roundg 0
            case measure => rw [A.out.1]; simp [togo]
            case rel => exact go1.out _ C.out.1 C.out.2
          · have e5 : ¬ (c.toNat : Int) < 32 := by omega
            have e6 : 127 ≤ (c.toNat : Int) := by omega
            clear e3
            go_wp2_with fail
            refine (fail_st _ b s _ (by exact B.out.1)).mono ?_
            rintro e w3 ⟨rfl, h6, hg6⟩
            have C : Hid (RdSt w3 b s none ∧ w2.grownBy w3 (some b)) := ⟨h6, hg6⟩
            clear h6 hg6
            go_wp2_with fail
            go_roundg 0
            case measure => rw [A.out.1]; simp [togo]
            case rel => exact go1.out _ C.out.1 C.out.2
        · have e5 : ¬ (c.toNat : Int) < 32 := by omega
          have e6 : ¬ 127 ≤ (c.toNat : Int) := by omega
          have F : Hid (restS acc (some (c :: l)) = restS (acc ++ [c]) (some l)) := restS_plain acc l c e1 e2 e3
          clear e1 e2 e3
          have hown3 : w2.ownsRow w.heap.size 5 1 u3 acc.length (Lib.byteCells acc) := own_kept A.out.2.2.2.1 B.out.2 hbl
          have gw3 : w.grownBy w2 (some b) := gb_trans A.out.2.2.2.2.2 B.out.2
          have hB3 := gw3.size
          have hl3 : acc.length ≤ 1000000000 := by have := A.out.2.1; omega
          have O3 := hidI hown3
          have G3 := hidI gw3
          clear hown3 gw3
          go_wp2_with (at_builtin; go_must (refine append_byte rfl _ _ rfl w.heap.size u3 acc c rfl rfl O3.out hB3 hl3 ?_); intro v4 w4 hown4 hgrow4; refine Hid.out ?_)
          refine hidI ?_
          have D : Hid (w4.ownsRow w.heap.size 5 1 v4 (acc ++ [c]).length (Lib.byteCells (acc ++ [c])) ∧ w2.grownBy w4 u3.ownBlock) := ⟨hown4, hgrow4⟩
          clear hown4 hgrow4
          go_wp2_with fail
          obtain ⟨hk, hb, hr, hown, h2, hg2⟩ := A.out
          go_roundg (togo (some l))
          case measure => rw [hk]; simp [togo]
          case rel =>
            refine ⟨acc ++ [c], some l, rfl, ?_, ?_, D.out.1, ?_, ?_⟩
            · rw [hk] at hb
              simp [togo] at hb ⊢; omega
            · rw [← hr, F.out]
            · exact B.out.1.grown D.out.2 (fun e => by have := (O3.out.lt b e.symm).1; omega)
            · exact gb_own G3.out D.out.2 (fun k hk => (O3.out.lt k hk).1)
end Go.Proofs.YtkboplcffailoaaGreatDoor

/- What number of json's reader does. -/
set_option linter.unusedSimpArgs false
set_option linter.unusedVariables false
namespace Go.Proofs.YtkboplcffailoaaGreatDoor
open Go.RowKit Go.Shelf

/- The package-level variables of the library's, as its text lays them. -/
def Glob (w : World) : Prop :=
  (∃ tp p t f, w.heap[2]? = some (.cells #[.iface tp p] t f)) ∧ (∃ tp p t f, w.heap[3]? = some (.cells #[.iface tp p] t f)) ∧
  ∃ t f, w.heap[0]? = some (.cells (Lib.pow10Tab.map fun z => Value.int .u64 z).toArray t f)

theorem Glob.grown {w w' : World} {r : Option Nat} (h : Glob w) (hg : w.grownBy w' r) (hr : ∀ k, r = some k → 4 ≤ k) : Glob w' := by
  obtain ⟨⟨tp, p, t, f, h1⟩, ⟨tq, q, t2, f2, h2⟩, ⟨t3, f3, h3⟩⟩ := h
  have lt : ∀ k o, w.heap[k]? = some o → k < w.heap.size := fun k o e => (Array.getElem?_eq_some_iff.1 e).1
  refine ⟨⟨tp, p, t, f, (hg.block _ (lt _ _ h1) ?_).trans h1⟩, ⟨tq, q, t2, f2, (hg.block _ (lt _ _ h2) ?_).trans h2⟩, ⟨t3, f3, (hg.block _ (lt _ _ h3) ?_).trans h3⟩⟩ <;>
  · intro e
    have := hr _ e.symm
    omega
theorem Glob.size {w : World} (h : Glob w) : 4 ≤ w.heap.size := by
  obtain ⟨⟨tp, p, t, f, h1⟩, ⟨tq, q, t2, f2, h2⟩, ⟨t3, f3, h3⟩⟩ := h
  have lt : ∀ k o, w.heap[k]? = some o → k < w.heap.size := fun k o e => (Array.getElem?_eq_some_iff.1 e).1
  have := lt _ _ h1
  have := lt _ _ h2
  have := lt _ _ h3
  omega
theorem Glob.same {w w' : World} (h : Glob w) (e : w'.heap = w.heap) : Glob w' := by
  unfold Glob at h ⊢
  rw [e]; exact h

theorem atoi_ok (s : ByteArray) (hs : s.size ≤ 2000) (v : Int) (h : Lib.atoiAll s.data.toList = .ok v) (w : World) :
    Calls Tryz.prog 58 #[.string s] w fun e w' => e = .returned (.tuple #[.int .i64 v, .nilIface]) ∧ Below w.heap.size w w' := by
  refine (Any.strconv_Atoi_ok Tryz.laysC172 s (by omega) v h w).mono ?_
  rintro e w' ⟨rfl, rfl | ⟨t, rfl⟩⟩
  · exact ⟨rfl, Below.refl _ _⟩
  · exact ⟨rfl, Lib.bytesWorld_below w _ t⟩
theorem atoi_no (s : ByteArray) (hs : s.size ≤ 2000) (h : ∀ v, Lib.atoiAll s.data.toList ≠ .ok v) (w : World) (hG : Glob w) :
    Calls Tryz.prog 58 #[.string s] w fun e w' => ∃ v N T, e = .returned (.tuple #[.int .i64 v, .iface T (.pointer (some ⟨N, 0, none⟩))]) ∧ Below w.heap.size w w' := by
  obtain ⟨⟨tp, p, t, f, h1⟩, ⟨tq, q, t2, f2, h2⟩, _⟩ := hG
  rcases h9 : Lib.atoiAll s.data.toList with v | _ | _
  · exact absurd h9 (h v)
  · refine (Any.strconv_Atoi_syntax_var Tryz.laysC172 s (by omega) h9 tp p w ?_).mono ?_
    · unfold World.var?
      rw [show Program.globalNamed Tryz.prog _ = some 2 from by kernel_rfl]
      simp [h1]
    · rintro e w' ⟨N, rfl, -, -, hb⟩
      exact ⟨0, N, _, rfl, hb⟩
  · refine (Any.strconv_Atoi_range_var Tryz.laysC172 s (by omega) h9 tq q w ?_).mono ?_
    · unfold World.var?
      rw [show Program.globalNamed Tryz.prog _ = some 3 from by kernel_rfl]
      simp [h2]
    · rintro e w' ⟨N, rfl, -, -, hb⟩
      exact ⟨_, N, _, rfl, hb⟩
theorem grow_below (w : World) (os : Array Obj) : Below w.heap.size w (Sort.grow w os) :=
  ⟨rfl, rfl, rfl, by simp [Sort.grow], fun k hk => by simp [Sort.grow, Array.getElem?_append, hk]⟩
theorem itoa_at (n : Int) (h0 : I64 n) (w : World) (hG : Glob w) :
    Calls Tryz.prog 59 #[.int .i64 n] w fun e w' => e = .returned (.string ⟨(Lib.itoa n).toArray⟩) ∧ Below w.heap.size w w' := by
  obtain ⟨_, _, t3, f3, h3⟩ := hG
  refine (Any.strconv_Itoa Tryz.laysM171 n h0.1 h0.2 w ?_).mono ?_
  · unfold Lib.TabIs World.var?
    rw [show Program.globalNamed Tryz.prog _ = some 0 from by kernel_rfl]
    simp [h3]
  · rintro e w' ⟨rfl, k, os, rfl⟩
    have h : Below w.heap.size w (w.drewN k) := ⟨rfl, rfl, rfl, Nat.le_refl _, fun _ _ => rfl⟩
    exact ⟨rfl, h.trans (grow_below (w.drewN k) os)⟩

def isNum (c : UInt8) : Bool := c == 45 || (decide (48 ≤ c.toNat) && decide (c.toNat ≤ 57))
def numS (l : List UInt8) : Option (Int × List UInt8) :=
  match Lib.atoiAll (l.takeWhile isNum) with
  | .ok v => if Lib.itoa v = l.takeWhile isNum then some (v, l.dropWhile isNum) else none
  | _ => none
def leafV (k n : Int) (s : List UInt8) : V := ⟨k, n, s, [], []⟩
theorem leaf_is (w : World) (ok : Nat → Prop) (d : Nat) (k n : Int) (s : List UInt8) (hk : I64 k) (hn : I64 n) (hs : s.length ≤ maxLen) : VIs w ok (d + 1) (leafV k n s) (leaf k n s) :=
  ⟨_, _, rfl, hk, hn, hs, ⟨by simp [leafV], .inl ⟨rfl, none, rfl⟩⟩, ⟨by simp [leafV], .inl ⟨rfl, none, rfl⟩⟩⟩

theorem numS_ok {l : List UInt8} {v : Int} (h : Lib.atoiAll (l.takeWhile isNum) = .ok v) (h2 : Lib.itoa v = l.takeWhile isNum) : numS l = some (v, l.dropWhile isNum) := by
  simp [numS, h, h2]
theorem numS_ne {l : List UInt8} {v : Int} (h : Lib.atoiAll (l.takeWhile isNum) = .ok v) (h2 : Lib.itoa v ≠ l.takeWhile isNum) : numS l = none := by
  simp [numS, h, h2]
theorem numS_no {l : List UInt8} (h : ∀ v, Lib.atoiAll (l.takeWhile isNum) ≠ .ok v) : numS l = none := by
  unfold numS
  split
  · rename_i v e; exact absurd e (h v)
  · rfl
theorem atoi_nil (v : Int) : Lib.atoiAll [] ≠ .ok v := by intro h; cases h
theorem isNum_no {l : List UInt8} (h : isNum (hd0 l) = false) : l.dropWhile isNum = l := by
  cases l with
  | nil => rfl
  | cons c l => rw [List.dropWhile_cons, if_neg (by simpa [hd0] using h)]
theorem isNum_yes {l : List UInt8} (h : isNum (hd0 l) = true) : ∃ c r, l = c :: r ∧ isNum c = true := by
  cases l with
  | nil => simp [hd0, isNum] at h
  | cons c l => exact ⟨c, l, rfl, by simpa [hd0] using h⟩

/- Block g holds a value, spread over its five cells. -/
def IsLeaf (t : V) (v : Value) : Prop := ∃ k n, t = leafV k n [] ∧ v = leaf k n [] ∧ I64 k ∧ I64 n

def zcells : Obj := .cells #[.int .i64 0, .int .i64 0, .string ⟨#[]⟩, .slice none 0 0, .slice none 0 0] 25
/- What holds ahead of each digit. -/
def NumI (w : World) (b : Nat) (s : ByteArray) (l : List UInt8) (bad : Bool) (i0 : Nat) (k : Nat) (c : Value) (wr : World) (j : Nat) : Prop :=
  ∃ l1, c = .int .u8 (hd0 l1).toNat ∧ k = l1.length ∧ RdIs wr b s (i0 + j) bad ∧ s.data.toList.drop (i0 + j) = l1 ∧ l.takeWhile isNum = l.take j ++ l1.takeWhile isNum ∧ l1.dropWhile isNum = l.dropWhile isNum ∧ (w.alloc zcells).grownBy wr (some b)

set_option maxRecDepth 100000 in
set_option maxHeartbeats 1000000 in
theorem number_st (w : World) (b : Nat) (s : ByteArray) (st : Option (List UInt8)) (h : RdSt w b s st) (hG : Glob w) (hb4 : 4 ≤ b) :
    Calls Tryz.prog 46 #[.pointer (some ⟨b, 0, none⟩)] w fun e w' => ∃ (t : V) (v : Value) (st' : Option (List UInt8)), e = .returned v ∧ IsLeaf t v ∧
      (st.bind numS).map (fun p => (leafV 2 p.1 [], p.2)) = st'.map (fun l => (t, l)) ∧ RdSt w' b s st' ∧ w.grownBy w' (some b) := by
  have H := hidI h
  have hbl := h.lt
  obtain ⟨i0, h1, e1⟩ := h
  obtain ⟨c0, c1, c2, f1, f2⟩ := h1.c
  have E1 := hidI e1
  have hi0 := h1.2.1
  have hs0 := h1.2.2
  have R0 := hidI h1
  have HG := hidI hG
  clear h1 e1 hG
  have hne : b ≠ w.heap.size := by omega
  go_enter Tryz.func46, Tryz.ntmps46
  go_wp2_with fail
  refine (ahead_at _ b s (st.getD []) st.isNone (by exact H.out.grown (World.grownBy_alloc w _ none) (by simp))).mono ?_
  rintro e w1 ⟨rfl, n1, rfl⟩
  go_wp2_with fail
  go_loopg [4] (st.getD []).length (fun k c wr => ∃ j, NumI w b s (st.getD []) st.isNone i0 k c wr j)
  case atStart =>
    refine ⟨0, st.getD [], rfl, rfl, ?_, E1.out, rfl, rfl, gb_drewN (gb_refl _ _) _⟩
    exact ⟨(World.grownBy_alloc w _ none).block b hbl (by simp) |>.trans (by exact R0.out.1), R0.out.2⟩
  case round =>
    obtain ⟨j, l1, rfl, hk, h2, e2, ht, hd, hg⟩ := hrel
    have A : Hid (gk = l1.length ∧ RdIs wr b s (i0 + j) st.isNone ∧ s.data.toList.drop (i0 + j) = l1 ∧ (st.getD []).takeWhile isNum = (st.getD []).take j ++ l1.takeWhile isNum ∧ l1.dropWhile isNum = (st.getD []).dropWhile isNum ∧ (w.alloc zcells).grownBy wr (some b)) := ⟨hk, h2, e2, ht, hd, hg⟩
    obtain ⟨c0, c1, c2, f1, f2⟩ := h2.c
    have hj := h2.2.1
    clear hk h2 e2 ht hd hg
    cases hn : isNum (hd0 l1) with
    | true =>
      obtain ⟨c, r, rfl, hc⟩ := isNum_yes hn
      clear hn
      have hc' : c.toNat = 45 ∨ 48 ≤ c.toNat ∧ c.toNat ≤ 57 := by
        simp only [isNum, Bool.or_eq_true, beq_iff_eq, Bool.and_eq_true, decide_eq_true_eq] at hc
        rcases hc with rfl | h
        · left; rfl
        · right; exact h
      have hlt : i0 + j < s.size := by
        have := congrArg List.length A.out.2.2.1
        rw [List.length_drop, Array.length_toList] at this
        have e : s.data.size = s.size := rfl
        simp only [List.length_cons] at this
        omega
      have step : Hid (∀ wr' nn, wr' = (wr.setCell ⟨b, 1, none⟩ (.int .i64 ((i0 : Int) + j + 1))) → NumI w b s (st.getD []) st.isNone i0 r.length (.int .u8 (hd0 r).toNat) (wr'.drewN nn) (j + 1)) := by
        rintro wr' nn rfl
        obtain ⟨hk, h2, e2, ht, hd, hg⟩ := A.out
        have e3 : s.data.toList.drop (i0 + j + 1) = r := by
          have := congrArg List.tail e2
          simpa using this
        refine ⟨r, rfl, rfl, ⟨?_, by omega, h2.2.2⟩, e3, ?_, ?_, gb_drewN (gb_set hg _ _) _⟩
        · have e9 : ((i0 : Int) + j + 1) = ((i0 + (j + 1) : Nat) : Int) := by omega
          rw [e9]; exact heap_set h2.1 1 _
        · rw [ht, List.takeWhile_cons, if_pos hc]
          have e8 : (st.getD []).drop j = c :: r := by rw [← E1.out, List.drop_drop]; exact e2
          rw [List.take_add_one, List.append_assoc]
          congr 1
          have e7 : (st.getD [])[j]? = some c := by
            have := congrArg (fun l => l[0]?) e8
            simpa using this
          rw [e7]; rfl
        · rw [← hd, List.dropWhile_cons, if_pos hc]
      have nxt : Hid (RdAt (wr.setCell ⟨b, 1, none⟩ (.int .i64 ((i0 : Int) + j + 1))) b s r st.isNone) := by
        obtain ⟨r', e5, e6, h3, h4, -⟩ := step.out _ 0 rfl
        have e7 : s.data.toList.drop (i0 + j + 1) = r := by
          have := congrArg List.tail A.out.2.2.1
          simpa using this
        exact ⟨i0 + (j + 1), ⟨h3.1, h3.2⟩, e7⟩
      rcases hc' with hq | ⟨hq1, hq2⟩
      · have q1 : (((hd0 (c :: r)).toNat : Int) == 45) = true := by simp [hd0, hq]
        go_wp2_with fail
        refine (ahead_at _ b s r st.isNone (by exact nxt.out)).mono ?_
        rintro e w1 ⟨rfl, n1, rfl⟩
        go_wp2_with fail
        go_roundg r.length
        case measure => rw [A.out.1]; simp
        case rel => exact ⟨j + 1, step.out _ n1 rfl⟩
      · have q1 : (((hd0 (c :: r)).toNat : Int) == 45) = false := by rw [beq_eq_false_iff_ne]; simp only [hd0, List.headD_cons]; omega
        have q2 : 48 ≤ ((hd0 (c :: r)).toNat : Int) := by simp only [hd0, List.headD_cons]; omega
        have q3 : ((hd0 (c :: r)).toNat : Int) ≤ 57 := by simp only [hd0, List.headD_cons]; omega
        go_wp2_with fail
        refine (ahead_at _ b s r st.isNone (by exact nxt.out)).mono ?_
        rintro e w1 ⟨rfl, n1, rfl⟩
        go_wp2_with fail
        go_roundg r.length
        case measure => rw [A.out.1]; simp
        case rel => exact ⟨j + 1, step.out _ n1 rfl⟩
    | false =>
      have hn' : ¬ (((hd0 l1).toNat : Int) = 45) := by
        intro e
        have : hd0 l1 = 45 := UInt8.toNat_inj.1 (by simpa using Int.ofNat.inj e)
        rw [this] at hn; exact absurd hn (by decide)
      have hn1 : (((hd0 l1).toNat : Int) == 45) = false := by rw [beq_eq_false_iff_ne]; exact hn'
      have hsplit : (48 ≤ ((hd0 l1).toNat : Int)) ∧ ¬ (((hd0 l1).toNat : Int) ≤ 57) ∨ ¬ (48 ≤ ((hd0 l1).toNat : Int)) := by
        by_cases g1 : 48 ≤ ((hd0 l1).toNat : Int)
        · left
          refine ⟨g1, fun g2 => ?_⟩
          have : isNum (hd0 l1) = true := by
            simp only [isNum, Bool.or_eq_true, beq_iff_eq, Bool.and_eq_true, decide_eq_true_eq]
            right; omega
          rw [this] at hn; cases hn
        · right; exact g1
      have b1 : (i0 : Int) ≤ ((i0 + j : Nat) : Int) := by omega
      have b2 : ((i0 + j : Nat) : Int) ≤ (s.size : Int) := by omega
      have hx : Hid ((s.extract i0 (i0 + j)).data.toList = (st.getD []).takeWhile isNum) := by
        obtain ⟨hk, h2, e2, ht, hd, hg⟩ := A.out
        have hz : l1.takeWhile isNum = [] := by
          cases l1 with
          | nil => rfl
          | cons x r => rw [List.takeWhile_cons, if_neg (by simpa [hd0] using hn)]
        rw [ht, hz, List.append_nil, ← E1.out]
        have := ByteArray.extract_mk s.data.toList i0 (i0 + j)
        have e9 : (ByteArray.mk s.data.toList.toArray) = s := by cases s; simp
        rw [e9] at this
        rw [this, Nat.add_sub_cancel_left]; exact List.toList_toArray
      have hxl : (s.extract i0 (i0 + j)).size ≤ 2000 := by rw [ByteArray.size_extract]; omega
      have hend : Hid (RdAt wr b s ((st.getD []).dropWhile isNum) st.isNone) := by
        obtain ⟨hk, h2, e2, ht, hd, hg⟩ := A.out
        exact ⟨i0 + j, h2, by rw [e2, ← hd, isNum_no hn]⟩
      have HN := hidI hn
      clear hn hn'
      generalize hX : s.extract i0 (i0 + j) = X at hx hxl
      have HX := hidI hX
      have hgw : Hid ((w.alloc zcells).grownBy wr (some b)) := A.out.2.2.2.2.2
      have hbx : Hid (BoxIs wr w.heap.size (.int .i64 0) (.int .i64 0) (.string ⟨#[]⟩) (.slice none 0 0) (.slice none 0 0)) := BoxIs.grown (w := w.alloc zcells) (heap_alloc_new w _) hgw.out (by simp; omega)
      have hG1 : Hid (Glob wr) := (HG.out.grown (World.grownBy_alloc w zcells none) (by simp)).grown hgw.out (by intro k hk; cases hk; exact hb4)
      rcases hv : Lib.atoiAll X.data.toList with v | _ | _
      · have hvb : I64 v := Lib.atoiAll_bounds hv
        have HV := hidI hv
        clear hv
        rcases hsplit with ⟨d1, d2⟩ | d1
        all_goals
          go_wp2_with fail
          go_quiet (fail)
          rw [hX]
          go_wp2_with fail
          refine (atoi_ok X hxl v HV.out _).mono ?_
          rintro e w2 ⟨rfl, hb2⟩
          have B2 := hidI hb2
          clear hb2
          go_wp2_with fail
          refine (itoa_at v hvb _ (by exact (hG1.out.same (w' := wr.drewN _) rfl).grown (gb_below (r := none) B2.out) (by simp))).mono ?_
          rintro e w3 ⟨rfl, hb3⟩
          have B3 := hidI hb3
          clear hb3
          have hg3 : Hid (wr.grownBy w3 none) := gb_trans (gb_trans (gb_drewN (gb_refl wr none) _) (gb_below B2.out)) (gb_below B3.out)
          have hbx3 : Hid (BoxIs w3 w.heap.size (.int .i64 0) (.int .i64 0) (.string ⟨#[]⟩) (.slice none 0 0) (.slice none 0 0)) := hbx.out.grown hg3.out (by simp)
          obtain ⟨x0, x1, x2, x3, x4, y0, y1, y2, y3, y4⟩ := hbx3.out.c
          by_cases heq : Lib.itoa v = X.data.toList
          · have hq : (Lib.itoa v == X.toList) = true := by rw [ByteArray.toList_eq, beq_iff_eq]; exact heq
            have hB := hbx3.out.set (.int .i64 2) (.int .i64 v) (str []) (.slice none 0 0) (.slice none 0 0)
            obtain ⟨z0, z1, z2, z3, z4, -⟩ := hB.c
            have Z : Hid (_ ∧ _ ∧ _ ∧ _ ∧ _) := ⟨z0, z1, z2, z3, z4⟩
            clear z0 z1 z2 z3 z4 hB
            go_wp2_with fail
            obtain ⟨z0, z1, z2, z3, z4⟩ := Z.out
            refine bodyPost_ret (v := leaf 2 v []) ?_ rfl ?_
            · simp only [set5, str] at z0 z1 z2 z3 z4
              simp [results, Tryz.results46, go_sem, z0, z1, z2, z3, z4, leaf, str]
            · refine ⟨leafV 2 v [], leaf 2 v [], st.map (List.dropWhile isNum), rfl, ⟨_, _, rfl, rfl, (by unfold I64; omega), hvb⟩, ?_, ?_, ?_⟩
              · match st, hx, hend with
                | none, hx, _ => rw [hx.out] at HV; exact absurd HV.out (atoi_nil v)
                | some l, hx, _ =>
                  have hx' : X.data.toList = l.takeWhile isNum := hx.out
                  exact congrArg _ (numS_ok (by rw [← hx']; exact HV.out) (by rw [← hx']; exact heq))
              · have e1 : (st.map (List.dropWhile isNum)).getD [] = (st.getD []).dropWhile isNum := by cases st <;> rfl
                have e2 : (st.map (List.dropWhile isNum)).isNone = st.isNone := by cases st <;> rfl
                unfold RdSt
                rw [e1, e2]
                refine hend.out.of_heap (((set5_gb w3 w.heap.size _ _ _ _ _).block b ?_ (by simp; omega)).trans (hg3.out.block b hend.out.lt (by simp)))
                exact Nat.lt_of_lt_of_le hend.out.lt hg3.out.size
              · exact gb_own (gb_trans (gb_trans (World.grownBy_alloc w zcells _) hgw.out) (gb_own (gb_refl _ _) hg3.out (by simp))) (set5_gb w3 w.heap.size _ _ _ _ _) (by intro k hk; cases hk; exact Nat.le_refl _)
          · have hq : (Lib.itoa v == X.toList) = false := by rw [ByteArray.toList_eq, beq_eq_false_iff_ne]; exact heq
            go_wp2_with fail
            refine (fail_at _ b s _ _ (by exact hend.out.of_heap (hg3.out.block b hend.out.lt (by simp)))).mono ?_
            rintro e w4 ⟨rfl, h4, hg4⟩
            have R4 : Hid (RdAt w4 b s [] true ∧ w3.grownBy w4 (some b)) := ⟨h4, hg4⟩
            clear h4 hg4 x0 x1 x2 x3 x4 y0 y1 y2 y3 y4
            have hb4' := hbx3.out.grown R4.out.2 (by simp; omega)
            obtain ⟨x0, x1, x2, x3, x4, y0, y1, y2, y3, y4⟩ := hb4'.c
            have hB := hb4'.set (.int .i64 0) (.int .i64 0) (str []) (.slice none 0 0) (.slice none 0 0)
            obtain ⟨z0, z1, z2, z3, z4, -⟩ := hB.c
            have Z : Hid (_ ∧ _ ∧ _ ∧ _ ∧ _) := ⟨z0, z1, z2, z3, z4⟩
            clear z0 z1 z2 z3 z4 hB hb4'
            go_wp2_with fail
            obtain ⟨z0, z1, z2, z3, z4⟩ := Z.out
            refine bodyPost_ret (v := leaf 0 0 []) ?_ rfl ?_
            · simp only [set5, str] at z0 z1 z2 z3 z4
              simp [results, Tryz.results46, go_sem, z0, z1, z2, z3, z4, leaf, str]
            · refine ⟨leafV 0 0 [], leaf 0 0 [], none, rfl, ⟨_, _, rfl, rfl, (by unfold I64; omega), (by unfold I64; omega)⟩, ?_, ?_, ?_⟩
              · cases st with
                | none => rfl
                | some l =>
                  have hx' : X.data.toList = l.takeWhile isNum := hx.out
                  exact congrArg _ (numS_ne (v := v) (by rw [← hx']; exact HV.out) (by rw [← hx']; exact heq))
              · exact R4.out.1.of_heap ((set5_gb w4 w.heap.size _ _ _ _ _).block b R4.out.1.lt (by simp; omega))
              · exact gb_own (gb_trans (gb_trans (gb_trans (World.grownBy_alloc w zcells _) hgw.out) (gb_own (gb_refl _ _) hg3.out (by simp))) R4.out.2) (set5_gb w4 w.heap.size _ _ _ _ _) (by intro k hk; cases hk; exact Nat.le_refl _)
      all_goals
        have hno : ∀ v, Lib.atoiAll X.data.toList ≠ .ok v := by intro v e; rw [hv] at e; cases e
        have HV := hidI hno
        clear hv hno
        rcases hsplit with ⟨d1, d2⟩ | d1
        all_goals
          go_wp2_with fail
          go_quiet (fail)
          rw [hX]
          go_wp2_with fail
          refine (atoi_no X hxl HV.out _ (by exact (hG1.out.same (w' := wr.drewN _) rfl))).mono ?_
          rintro e w3 ⟨v, N, T, rfl, hb2⟩
          have hg3 : Hid (wr.grownBy w3 none) := gb_trans (gb_drewN (gb_refl wr none) _) (gb_below hb2)
          clear hb2
          have hbx3 : Hid (BoxIs w3 w.heap.size (.int .i64 0) (.int .i64 0) (.string ⟨#[]⟩) (.slice none 0 0) (.slice none 0 0)) := hbx.out.grown hg3.out (by simp)
          go_wp2_with fail
          refine (fail_at _ b s _ _ (by exact hend.out.of_heap (hg3.out.block b hend.out.lt (by simp)))).mono ?_
          rintro e w4 ⟨rfl, h4, hg4⟩
          have R4 : Hid (RdAt w4 b s [] true ∧ w3.grownBy w4 (some b)) := ⟨h4, hg4⟩
          clear h4 hg4
          have hb4' := hbx3.out.grown R4.out.2 (by simp; omega)
          obtain ⟨x0, x1, x2, x3, x4, y0, y1, y2, y3, y4⟩ := hb4'.c
          have hB := hb4'.set (.int .i64 0) (.int .i64 0) (str []) (.slice none 0 0) (.slice none 0 0)
          obtain ⟨z0, z1, z2, z3, z4, -⟩ := hB.c
          have Z : Hid (_ ∧ _ ∧ _ ∧ _ ∧ _) := ⟨z0, z1, z2, z3, z4⟩
          clear z0 z1 z2 z3 z4 hB hb4'
          go_wp2_with fail
          obtain ⟨z0, z1, z2, z3, z4⟩ := Z.out
          refine bodyPost_ret (v := leaf 0 0 []) ?_ rfl ?_
          · simp only [set5, str] at z0 z1 z2 z3 z4
            simp [results, Tryz.results46, go_sem, z0, z1, z2, z3, z4, leaf, str]
          · refine ⟨leafV 0 0 [], leaf 0 0 [], none, rfl, ⟨_, _, rfl, rfl, (by unfold I64; omega), (by unfold I64; omega)⟩, ?_, ?_, ?_⟩
            · cases st with
              | none => rfl
              | some l =>
                have hx' : X.data.toList = l.takeWhile isNum := hx.out
                exact congrArg _ (numS_no (by intro v; rw [← hx']; exact HV.out v))
            · exact R4.out.1.of_heap ((set5_gb w4 w.heap.size _ _ _ _ _).block b R4.out.1.lt (by simp; omega))
            · exact gb_own (gb_trans (gb_trans (gb_trans (World.grownBy_alloc w zcells _) hgw.out) (gb_own (gb_refl _ _) hg3.out (by simp))) R4.out.2) (set5_gb w4 w.heap.size _ _ _ _ _) (by intro k hk; cases hk; exact Nat.le_refl _)
end Go.Proofs.YtkboplcffailoaaGreatDoor

/- What word of json's reader does. -/
set_option linter.unusedSimpArgs false
set_option linter.unusedVariables false
namespace Go.Proofs.YtkboplcffailoaaGreatDoor
open Go.RowKit

def wordS (wd l : List UInt8) : Option (List UInt8) := if wd.isPrefixOf l then some (l.drop wd.length) else none

set_option maxRecDepth 100000 in
set_option maxHeartbeats 1000000 in
theorem word_st (w : World) (b : Nat) (s : ByteArray) (st : Option (List UInt8)) (wd : ByteArray) (k n : Int) (hk : I64 k) (hn : I64 n) (hwd : 0 < wd.size) (hwd2 : wd.size ≤ 100) (h : RdSt w b s st) :
    Calls Tryz.prog 42 #[.pointer (some ⟨b, 0, none⟩), .string wd, .agg #[.int .i64 k, .int .i64 n, .string ⟨#[]⟩, .slice none 0 0, .slice none 0 0]] w fun e w' => ∃ (t : V) (v : Value) (st' : Option (List UInt8)), e = .returned v ∧ IsLeaf t v ∧
      (st.bind (wordS wd.data.toList)).map (fun l => (leafV k n [], l)) = st'.map (fun l => (t, l)) ∧ RdSt w' b s st' ∧ w.grownBy w' (some b) := by
  have H := hidI h
  have hbl := h.lt
  obtain ⟨i, h1, e1⟩ := h
  have E1 := hidI e1
  have hi := h1.2.1
  have hs0 := h1.2.2
  have R0 := hidI h1
  clear e1 h1
  have hr1 : Hid (RdIs ((w.alloc (.cells #[.int .i64 k, .int .i64 n, .string ⟨#[]⟩, .slice none 0 0, .slice none 0 0] 25)).alloc zcells) b s i st.isNone) :=
    ⟨by rw [(World.grownBy_alloc _ zcells none).block b (by simp; omega) (by simp), (World.grownBy_alloc w _ none).block b hbl (by simp)]; exact R0.out.1, R0.out.2⟩
  have i0 : (0 : Int) ≤ (i : Int) := by omega
  have i1 : (i : Int) ≤ (s.size : Int) := by omega
  obtain ⟨c0, c1, c2, f1, f2⟩ := hr1.out.c
  unfold zcells at c0 c1 c2 f1 f2
  have hdr : Hid ((s.data.toList.drop i).take (s.size - i) = st.getD []) := by
    show _ = _
    rw [← E1.out]
    exact List.take_of_length_le (by simp only [List.length_drop, Array.length_toList]; exact Nat.le_refl _)
  cases hpx : wd.data.toList.isPrefixOf (st.getD []) with
  | true =>
    have hp : Lib.hasPrefix ((s.data.toList.drop i).take (s.size - i)) wd.data.toList = true := by rw [hdr.out]; exact hpx
    have HP := hidI hpx
    have hlen : i + wd.size ≤ s.size := by
      have := List.IsPrefix.length_le (List.isPrefixOf_iff_prefix.1 hpx)
      rw [← E1.out, List.length_drop, Array.length_toList, Array.length_toList] at this
      have e : s.data.size = s.size := rfl
      have e' : wd.data.size = wd.size := rfl
      omega
    clear hpx
    go_enter Tryz.func42, Tryz.ntmps42
    go_wp2_with fail
    go_quiet ((go_at_call 51; exact Calls.quiet_of_same (Tryz.strings_HasPrefix _ _ _)))
    go_wp2_with fail
    refine bodyPost_ret (v := leaf k n []) (by simp [results, Tryz.results42, go_sem, leaf, str]) rfl ?_
    refine ⟨leafV k n [], leaf k n [], st.map (List.drop wd.data.toList.length), rfl, ⟨_, _, rfl, rfl, hk, hn⟩, ?_, ?_, ?_⟩
    · cases st with
      | none => exact absurd HP.out (by
          cases hw : wd.data.toList with
          | nil => have e : wd.data.toList.length = wd.size := by rw [Array.length_toList]; rfl
                   rw [hw] at e; simp at e; omega
          | cons c r => simp)
      | some l => exact congrArg _ (show wordS wd.data.toList l = some _ by unfold wordS; exact if_pos HP.out)
    · have e9 : ((i : Int) + (wd.size : Int)) = ((i + wd.size : Nat) : Int) := by omega
      refine ⟨i + wd.size, ⟨?_, hlen, hs0⟩, ?_⟩
      · rw [e9]
        refine ((set5_gb _ (w.heap.size + 1) _ _ _ _ _).block b ?_ (by simp; omega)).trans ?_
        · simp [World.setCell]; omega
        · have : (st.map (List.drop wd.data.toList.length)).isNone = st.isNone := by cases st <;> rfl
          rw [this]
          exact heap_set hr1.out.1 1 _
      · have e8 : wd.data.toList.length = wd.size := by rw [Array.length_toList]; rfl
        rw [← List.drop_drop, E1.out, e8]
        cases st with
        | none => simp
        | some l => rfl
    · exact gb_own (gb_set (gb_drewN (gb_alloc (gb_alloc (gb_refl _ _) _) _) _) _ _) (set5_gb _ (w.heap.size + 1) _ _ _ _ _) (by intro k hk; cases hk; omega)
  | false =>
    have hp : Lib.hasPrefix ((s.data.toList.drop i).take (s.size - i)) wd.data.toList = false := by rw [hdr.out]; exact hpx
    have HP := hidI hpx
    clear hpx
    go_enter Tryz.func42, Tryz.ntmps42
    go_wp2_with fail
    go_quiet ((go_at_call 51; exact Calls.quiet_of_same (Tryz.strings_HasPrefix _ _ _)))
    go_wp2_with fail
    refine (fail_at _ b s (st.getD []) st.isNone (by exact ⟨i, ⟨hr1.out.1, hr1.out.2⟩, E1.out⟩)).mono ?_
    rintro e w4 ⟨rfl, h4, hg4⟩
    have hg5 := gb_trans (gb_drewN (gb_refl ((w.alloc (.cells #[.int .i64 k, .int .i64 n, .string ⟨#[]⟩, .slice none 0 0, .slice none 0 0] 25)).alloc zcells) (some b)) nq) hg4
    have hbx : BoxIs w4 (w.heap.size + 1) (.int .i64 0) (.int .i64 0) (.string ⟨#[]⟩) (.slice none 0 0) (.slice none 0 0) := BoxIs.grown (h2b w _ zcells) hg5 (by simp; omega)
    have R4 : Hid (RdAt w4 b s [] true ∧ w.grownBy w4 (some b)) := ⟨h4, gb_trans (gb_alloc (gb_alloc (gb_refl _ _) _) _) hg5⟩
    obtain ⟨x0, x1, x2, x3, x4, y0, y1, y2, y3, y4⟩ := hbx.c
    obtain ⟨z0, z1, z2, z3, z4, -⟩ := (hbx.set (.int .i64 0) (.int .i64 0) (str []) (.slice none 0 0) (.slice none 0 0)).c
    have Z : Hid (_ ∧ _ ∧ _ ∧ _ ∧ _) := ⟨z0, z1, z2, z3, z4⟩
    clear z0 z1 z2 z3 z4 hbx h4 hg4 hg5 c0 c1 c2 f1 f2
    go_wp2_with fail
    obtain ⟨z0, z1, z2, z3, z4⟩ := Z.out
    refine bodyPost_ret (v := leaf 0 0 []) ?_ rfl ?_
    · simp only [set5, str] at z0 z1 z2 z3 z4
      simp [results, Tryz.results42, go_sem, z0, z1, z2, z3, z4, leaf, str]
    · refine ⟨leafV 0 0 [], leaf 0 0 [], none, rfl, ⟨_, _, rfl, rfl, (by unfold I64; omega), (by unfold I64; omega)⟩, ?_, ?_, ?_⟩
      · cases st with
        | none => rfl
        | some l => exact congrArg _ (show wordS wd.data.toList l = none by unfold wordS; rw [if_neg (by rw [show wd.data.toList.isPrefixOf l = false from HP.out]; simp)])
      · exact R4.out.1.of_heap ((set5_gb w4 (w.heap.size + 1) _ _ _ _ _).block b R4.out.1.lt (by simp; omega))
      · exact gb_own R4.out.2 (set5_gb w4 (w.heap.size + 1) _ _ _ _ _) (by intro k hk; cases hk; omega)
end Go.Proofs.YtkboplcffailoaaGreatDoor

/- What a text tells: the plain function that Parse is held against. -/
set_option linter.unusedSimpArgs false
set_option linter.unusedVariables false
namespace Go.Proofs.YtkboplcffailoaaGreatDoor
open Go.RowKit

def itemsS (g : List UInt8 → Option (V × List UInt8)) : Nat → List V → List UInt8 → Option (V × List UInt8)
  | 0, _, _ => none
  | k + 1, acc, l =>
    match markS 44 l with
    | some r => (g r).bind fun p => itemsS g k (acc ++ [p.1]) p.2
    | none => (markS 93 (l.dropWhile isSp)).map fun r => (⟨4, 0, [], [], acc⟩, r)
def listS (g : List UInt8 → Option (V × List UInt8)) (l : List UInt8) : Option (V × List UInt8) :=
  (markS 91 l).bind fun l =>
    match markS 93 l with
    | some r => some (⟨4, 0, [], [], []⟩, r)
    | none => (g (l.dropWhile isSp)).bind fun p => itemsS g (p.2.length + 1) [p.1] p.2
def memS (g : List UInt8 → Option (V × List UInt8)) (v : V) (l : List UInt8) : Option (V × List UInt8) :=
  (quotS l).bind fun q => (markS 58 q.2).bind fun l => (g l).bind fun p => if (memV v q.1).isSome then none else some (withV v q.1 p.1, p.2)
def membsS (g : List UInt8 → Option (V × List UInt8)) : Nat → V → List UInt8 → Option (V × List UInt8)
  | 0, _, _ => none
  | k + 1, v, l =>
    match markS 44 l with
    | some r => (memS g v r).bind fun p => membsS g k p.1 p.2
    | none => (markS 125 (l.dropWhile isSp)).map fun r => (v, r)
def objS (g : List UInt8 → Option (V × List UInt8)) (l : List UInt8) : Option (V × List UInt8) :=
  (markS 123 l).bind fun l =>
    match markS 125 l with
    | some r => some (⟨5, 0, [], [], []⟩, r)
    | none => (memS g ⟨5, 0, [], [], []⟩ (l.dropWhile isSp)).bind fun p => membsS g (p.2.length + 1) p.1 p.2
def oneS (g : List UInt8 → Option (V × List UInt8)) (l : List UInt8) : Option (V × List UInt8) :=
  if hd0 l = 110 then (wordS [110, 117, 108, 108] l).map fun r => (leafV 0 0 [], r)
  else if hd0 l = 102 then (wordS [102, 97, 108, 115, 101] l).map fun r => (leafV 1 0 [], r)
  else if hd0 l = 116 then (wordS [116, 114, 117, 101] l).map fun r => (leafV 1 1 [], r)
  else if hd0 l = 34 then (quotS l).map fun p => (leafV 3 0 p.1, p.2)
  else if hd0 l = 91 then listS g l
  else if hd0 l = 123 then objS g l
  else (numS l).map fun p => (leafV 2 p.1 [], p.2)
def valS : Nat → List UInt8 → Option (V × List UInt8)
  | 0, _ => none
  | f + 1, l => oneS (valS f) (l.dropWhile isSp)

/- It leaves less than there was. -/
def Less (g : List UInt8 → Option (V × List UInt8)) : Prop := ∀ l p, g l = some p → p.2.length < l.length
theorem itemsS_len {g : List UInt8 → Option (V × List UInt8)} (hg : Less g) (k : Nat) : ∀ (acc : List V) (l : List UInt8) (p : V × List UInt8), itemsS g k acc l = some p → p.2.length < l.length := by
  induction k with
  | zero => intro acc l p h; cases h
  | succ k ih =>
    intro acc l p h
    simp only [itemsS] at h
    split at h
    · rename_i r hr
      simp only [Option.bind_eq_some_iff] at h
      obtain ⟨q, h1, h2⟩ := h
      have := hg _ _ h1
      have := ih _ _ _ h2
      have := markS_len hr
      omega
    · simp only [Option.map_eq_some_iff] at h
      obtain ⟨r, h1, rfl⟩ := h
      have := markS_len h1
      have := dropSp_len l
      simp only; omega
theorem listS_len {g : List UInt8 → Option (V × List UInt8)} (hg : Less g) : Less (listS g) := by
  intro l p h
  simp only [listS, Option.bind_eq_some_iff] at h
  obtain ⟨r, h1, h2⟩ := h
  have := markS_len h1
  split at h2
  · rename_i r2 hr2
    cases h2
    have := markS_len hr2
    simp only; omega
  · simp only [Option.bind_eq_some_iff] at h2
    obtain ⟨q, h3, h4⟩ := h2
    have := hg _ _ h3
    have := itemsS_len hg _ _ _ _ h4
    have := dropSp_len r
    omega
theorem memS_len {g : List UInt8 → Option (V × List UInt8)} (hg : Less g) (v : V) : Less (memS g v) := by
  intro l p h
  simp only [memS, Option.bind_eq_some_iff] at h
  obtain ⟨q, h1, r, h2, y, h3, h4⟩ := h
  split at h4
  · cases h4
  · cases h4
    have := quotS_len h1
    have := markS_len h2
    have := hg _ _ h3
    simp only; omega
theorem membsS_len {g : List UInt8 → Option (V × List UInt8)} (hg : Less g) (k : Nat) : ∀ (v : V) (l : List UInt8) (p : V × List UInt8), membsS g k v l = some p → p.2.length < l.length := by
  induction k with
  | zero => intro acc l p h; cases h
  | succ k ih =>
    intro acc l p h
    simp only [membsS] at h
    split at h
    · rename_i r hr
      simp only [Option.bind_eq_some_iff] at h
      obtain ⟨q, h1, h2⟩ := h
      have := memS_len hg _ _ _ h1
      have := ih _ _ _ h2
      have := markS_len hr
      omega
    · simp only [Option.map_eq_some_iff] at h
      obtain ⟨r, h1, rfl⟩ := h
      have := markS_len h1
      have := dropSp_len l
      simp only; omega
theorem objS_len {g : List UInt8 → Option (V × List UInt8)} (hg : Less g) : Less (objS g) := by
  intro l p h
  simp only [objS, Option.bind_eq_some_iff] at h
  obtain ⟨r, h1, h2⟩ := h
  have := markS_len h1
  split at h2
  · rename_i r2 hr2
    cases h2
    have := markS_len hr2
    simp only; omega
  · simp only [Option.bind_eq_some_iff] at h2
    obtain ⟨q, h3, h4⟩ := h2
    have := memS_len hg _ _ _ h3
    have := membsS_len hg _ _ _ _ h4
    have := dropSp_len r
    omega
theorem wordS_len {wd l r : List UInt8} (hw : 0 < wd.length) (h : wordS wd l = some r) : r.length < l.length := by
  unfold wordS at h
  split at h
  · rename_i hp
    cases h
    have := List.IsPrefix.length_le (List.isPrefixOf_iff_prefix.1 hp)
    rw [List.length_drop]; omega
  · cases h
theorem numS_len {l : List UInt8} {p : Int × List UInt8} (h : numS l = some p) : p.2.length < l.length := by
  unfold numS at h
  split at h
  · rename_i v hv
    split at h
    · rename_i he
      cases h
      have e : l = l.takeWhile isNum ++ l.dropWhile isNum := (List.takeWhile_append_dropWhile).symm
      have e2 := congrArg List.length e
      rw [List.length_append] at e2
      have : 0 < (l.takeWhile isNum).length := by
        cases ht : l.takeWhile isNum with
        | nil => rw [ht] at hv; exact absurd hv (atoi_nil v)
        | cons c r => simp
      simp only; omega
    · cases h
  · cases h
theorem oneS_len {g : List UInt8 → Option (V × List UInt8)} (hg : Less g) : Less (oneS g) := by
  intro l p h
  unfold oneS at h
  split at h
  · simp only [Option.map_eq_some_iff] at h; obtain ⟨r, h1, rfl⟩ := h; exact wordS_len (by simp) h1
  split at h
  · simp only [Option.map_eq_some_iff] at h; obtain ⟨r, h1, rfl⟩ := h; exact wordS_len (by simp) h1
  split at h
  · simp only [Option.map_eq_some_iff] at h; obtain ⟨r, h1, rfl⟩ := h; exact wordS_len (by simp) h1
  split at h
  · simp only [Option.map_eq_some_iff] at h; obtain ⟨r, h1, rfl⟩ := h; exact quotS_len h1
  split at h
  · exact listS_len hg _ _ h
  split at h
  · exact objS_len hg _ _ h
  · simp only [Option.map_eq_some_iff] at h; obtain ⟨r, h1, rfl⟩ := h; exact numS_len h1
theorem valS_len (f : Nat) : Less (valS f) := by
  induction f with
  | zero => intro l p h; cases h
  | succ f ih =>
    intro l p h
    have := oneS_len ih _ _ h
    have := dropSp_len l
    omega
end Go.Proofs.YtkboplcffailoaaGreatDoor

/- What list of json's reader does, if value does what is said of it. -/
set_option linter.unusedSimpArgs false
set_option linter.unusedVariables false
namespace Go.Proofs.YtkboplcffailoaaGreatDoor
open Go.RowKit

/- What is said of value, where less than f is still to be read. -/
def ValC (f : Nat) : Prop := ∀ (w : World) (b : Nat) (s : ByteArray) (st : Option (List UInt8)), RdSt w b s st → Glob w → 4 ≤ b → (st.getD []).length < f →
    Calls Tryz.prog 29 #[.pointer (some ⟨b, 0, none⟩)] w fun e w' => ∃ (t : V) (st' : Option (List UInt8)) (a7 a8 : Option Addr) (c7 c8 : Nat),
      e = .returned (.agg #[.int .i64 t.kind, .int .i64 t.n, .string ⟨t.s.toArray⟩, .slice a7 t.keys.length c7, .slice a8 t.l.length c8]) ∧
      VIs w' (fun k => w.heap.size ≤ k) f t (.agg #[.int .i64 t.kind, .int .i64 t.n, .string ⟨t.s.toArray⟩, .slice a7 t.keys.length c7, .slice a8 t.l.length c8]) ∧ st.bind (valS f) = st'.map (fun l => (t, l)) ∧ RdSt w' b s st' ∧ w.grownBy w' (some b)

/- One value more, behind a row of values that the call has made. -/
theorem box_setL {w : World} {g : Nat} {c0 c1 c2 c3 c4 : Value} (h : BoxIs w g c0 c1 c2 c3 c4) (v : Value) : BoxIs (w.setCell ⟨g, 4, none⟩ v) g c0 c1 c2 c3 v := heap_set h 4 v
theorem step_appendV {w : World} {ops : Array Oper} {o : Oper} {a : Act} {K : Act → World → Prop} {Q : Exit → Act → World → Prop} {E : Prop} (hgd : o.guard = none) (s x : Operand)
    (ho : o.op = .call { callee := .builtin .append, args := #[s, x], argTypes := #[23, 23] }) (B : Nat) (v : Value) (n : Nat) (cs : List Value) (k m : Int) (ss : ByteArray) (a7 a8 : Option Addr) (l7 c7 l8 c8 : Nat) (hs : a.eval s = v)
    (hx : a.eval x = .slice (some ⟨w.heap.size, 0, none⟩) 1 1) (hown : w.ownsRow B 25 5 v n cs) (hB : B ≤ w.heap.size) (hl : n ≤ 1000000)
    (hK : ∀ g cap w', w'.ownsRow B 25 5 (.slice (some ⟨g, 0, none⟩) (n + 1) cap) (n + 1) (cs ++ [.int .i64 k, .int .i64 m, .string ss, .slice a7 l7 c7, .slice a8 l8 c8]) → (w.alloc (.cells #[.int .i64 k, .int .i64 m, .string ss, .slice a7 l7 c7, .slice a8 l8 c8] 25)).grownBy w' v.ownBlock → (v.ownBlock = some g ∨ w.heap.size < g) → K (a.put o.dst (.slice (some ⟨g, 0, none⟩) (n + 1) cap)) w') :
    if Region.wanted o (yielded ops a.tmps) = true then Oper.wp Tryz.prog o a (w.alloc (.cells #[.int .i64 k, .int .i64 m, .string ss, .slice a7 l7 c7, .slice a8 l8 c8] 25)) K Q else E := by
  obtain ⟨i0, hi, hz0, hz1, hz2⟩ := info_parts info25
  have hb : BoxIs (w.alloc (.cells #[.int .i64 k, .int .i64 m, .string ss, .slice a7 l7 c7, .slice a8 l8 c8] 25)) w.heap.size (.int .i64 k) (.int .i64 m) (.string ss) (.slice a7 l7 c7) (.slice a8 l8 c8) := heap_alloc_new w _
  obtain ⟨h1, h2, h3, h4⟩ := slbox hb (one5 _ _ _ _ _ _ _ _ _)
  refine step_append_lies _ hgd s x 23 ho B 25 i0 _ 5 80 Tryz.underlying23 hi hz0 hz1 hz2 rfl (by decide) v n cs hs (hown.alloc _) ⟨w.heap.size, 0, none⟩ 1 1 [.int .i64 k, .int .i64 m, .string ss, .slice a7 l7 c7, .slice a8 l8 c8] hx rfl ?_ h3 (by decide) (by unfold maxLen; omega) (by omega) (by simp; omega) (w.heap.size + 1) (by simp) ?_
  · rcases h4 with ⟨e, _⟩ | ⟨ad, c, e, hc⟩
    · simp at e
    · simp only [Value.slice.injEq, Option.some.injEq] at e
      obtain ⟨rfl, -, -⟩ := e
      exact hc
  · intro g cap w' ho' hg' hor _
    exact hK g cap w' ho' hg' (hor.imp id fun e => by omega)

theorem listS_next {g : List UInt8 → Option (V × List UInt8)} {st : Option (List UInt8)} :
    st.bind (listS g) = (st.bind (markS 91)).bind fun l => match markS 93 l with | some r => some (⟨4, 0, [], [], []⟩, r) | none => (g (l.dropWhile isSp)).bind fun p => itemsS g (p.2.length + 1) [p.1] p.2 := by
  cases st <;> rfl

theorem itemsS_fuel {g : List UInt8 → Option (V × List UInt8)} (hg : Less g) (n : Nat) : ∀ (m : Nat) (acc : List V) (l : List UInt8), l.length < n → l.length < m → itemsS g n acc l = itemsS g m acc l := by
  induction n with
  | zero => intro m acc l h; omega
  | succ n ih =>
    intro m acc l h1 h2
    cases m with
    | zero => omega
    | succ m =>
      simp only [itemsS]
      split
      · rename_i r hr
        have := markS_len hr
        cases hgr : g r with
        | none => rfl
        | some p =>
          have := hg _ _ hgr
          exact ih m _ _ (by omega) (by omega)
      · rfl
def itemsT (g : List UInt8 → Option (V × List UInt8)) (acc : List V) (st : Option (List UInt8)) : Option (V × List UInt8) := st.bind fun l => itemsS g (l.length + 1) acc l
theorem items_step {g : List UInt8 → Option (V × List UInt8)} (hg : Less g) {acc : List V} {st1 st3 : Option (List UInt8)} {t0 : V} (h2 : (st1.bind (markS 44)).isSome = true) (h3 : (st1.bind (markS 44)).bind g = st3.map (fun l => (t0, l))) :
    itemsT g acc st1 = itemsT g (acc ++ [t0]) st3 ∧ togo st3 < togo st1 := by
  cases st1 with
  | none => cases h2
  | some l =>
    cases hm : markS 44 l with
    | none => simp [hm] at h2
    | some r =>
      have hr := markS_len hm
      simp only [Option.bind_some, hm] at h3
      have e : itemsT g acc (some l) = (g r).bind fun p => itemsS g l.length (acc ++ [p.1]) p.2 := by
        show itemsS g (l.length + 1) acc l = _
        simp only [itemsS, hm]
      rw [e, h3]
      cases st3 with
      | none => exact ⟨rfl, by simp [togo]⟩
      | some l3 =>
        have hl := hg _ _ h3
        simp only at hl
        exact ⟨itemsS_fuel hg _ _ _ _ (by simp only; omega) (by simp only; omega), by simp only [togo]; omega⟩
theorem items_end {g : List UInt8 → Option (V × List UInt8)} {acc : List V} {st1 : Option (List UInt8)} (h2 : (st1.bind (markS 44)).isSome = false) :
    itemsT g acc st1 = ((st1.map (List.dropWhile isSp)).bind (markS 93)).map fun r => (⟨4, 0, [], [], acc⟩, r) := by
  cases st1 with
  | none => rfl
  | some l =>
    cases hm : markS 44 l with
    | some r => simp [hm] at h2
    | none =>
      show itemsS g (l.length + 1) acc l = _
      simp only [itemsS, hm]; rfl
theorem list_first {g : List UInt8 → Option (V × List UInt8)} {st st3 : Option (List UInt8)} {t0 : V} (h2 : ((st.bind (markS 91)).bind (markS 93)).isSome = false)
    (h3 : ((st.bind (markS 91)).map (List.dropWhile isSp)).bind g = st3.map (fun l => (t0, l))) : st.bind (listS g) = itemsT g [t0] st3 := by
  rw [listS_next]
  cases hs : st.bind (markS 91) with
  | none =>
    rw [hs] at h3
    cases st3 with
    | none => rfl
    | some l => cases h3
  | some l =>
    rw [hs] at h2 h3
    simp only [Option.bind_some] at h2 ⊢
    have hm : markS 93 l = none := by cases hm : markS 93 l with
      | none => rfl
      | some r => simp [hm] at h2
    rw [hm]
    have h3' : g (l.dropWhile isSp) = st3.map (fun l => (t0, l)) := h3
    simp only [h3']
    cases st3 <;> rfl

/- What holds ahead of each comma. -/
def ListI (f : Nat) (w : World) (b : Nat) (s : ByteArray) (T : Option (V × List UInt8)) (k : Nat) (wr : World) : Prop :=
  ∃ (acc : List V) (st1 : Option (List UInt8)) (g cap : Nat) (cs : List Value), k = togo st1 ∧ itemsT (valS f) acc st1 = T ∧ acc.length + k ≤ 3000 ∧ (st1.getD []).length < f ∧
    BoxIs wr w.heap.size (.int .i64 0) (.int .i64 0) (.string ⟨#[]⟩) (.slice none 0 0) (.slice none 0 0) ∧
    BoxIs wr (w.heap.size + 1) (.int .i64 4) (.int .i64 0) (.string ⟨#[]⟩) (.slice none 0 0) (.slice (some ⟨g, 0, none⟩) acc.length cap) ∧
    wr.ownsRow (w.heap.size + 2) 25 5 (.slice (some ⟨g, 0, none⟩) acc.length cap) acc.length cs ∧ RowV (VIs wr (fun k => w.heap.size + 2 ≤ k ∧ k ≠ g) f) acc cs ∧ RdSt wr b s st1 ∧ Glob wr ∧ w.grownBy wr (some b)

theorem listI_mk {f : Nat} {w w3 w4 : World} {b : Nat} {s : ByteArray} {T : Option (V × List UInt8)} {t0 : V} {st3 : Option (List UInt8)} {acc : List V} {cs : List Value} {lv : Value} {a7 a8 : Option Addr} {c7 c8 g cap g0 : Nat} (hbl : b < w.heap.size)
    (bxC : BoxIs w3 w.heap.size (.int .i64 0) (.int .i64 0) (.string ⟨#[]⟩) (.slice none 0 0) (.slice none 0 0)) (bxA : BoxIs w3 (w.heap.size + 1) (.int .i64 4) (.int .i64 0) (.string ⟨#[]⟩) (.slice none 0 0) lv)
    (hown3 : w3.ownsRow (w.heap.size + 2) 25 5 lv acc.length cs) (hlv : lv.ownBlock = none ∨ lv.ownBlock = some g0) (hrow3 : RowV (VIs w3 (fun k => w.heap.size + 2 ≤ k ∧ k ≠ g0) f) acc cs)
    (hv : VIs w3 (fun k => w.heap.size + 2 ≤ k ∧ k ≠ g0) f t0 (.agg #[.int .i64 t0.kind, .int .i64 t0.n, .string ⟨t0.s.toArray⟩, .slice a7 t0.keys.length c7, .slice a8 t0.l.length c8])) (hT : itemsT (valS f) (acc ++ [t0]) st3 = T) (hl : (st3.getD []).length < f) (hc : acc.length + 1 + togo st3 ≤ 3000) (hr : RdSt w3 b s st3) (hG : Glob w3) (hb4 : 4 ≤ b) (hg : w.grownBy w3 (some b))
    (ho4 : w4.ownsRow (w.heap.size + 2) 25 5 (.slice (some ⟨g, 0, none⟩) (acc.length + 1) cap) (acc.length + 1) (cs ++ [.int .i64 t0.kind, .int .i64 t0.n, .string ⟨t0.s.toArray⟩, .slice a7 t0.keys.length c7, .slice a8 t0.l.length c8])) (hg4 : (w3.alloc (.cells #[.int .i64 t0.kind, .int .i64 t0.n, .string ⟨t0.s.toArray⟩, .slice a7 t0.keys.length c7, .slice a8 t0.l.length c8] 25)).grownBy w4 lv.ownBlock) (hgg : lv.ownBlock = some g ∨ w3.heap.size < g) :
    ListI f w b s T (togo st3) (w4.setCell ⟨w.heap.size + 1, 4, none⟩ (.slice (some ⟨g, 0, none⟩) (acc.length + 1) cap)) := by
  have hlow : ∀ k, lv.ownBlock = some k → w.heap.size + 2 ≤ k := fun k hk => (hown3.lt k hk).1
  have g34 : w3.grownBy w4 lv.ownBlock := gb_trans (World.grownBy_alloc w3 _ _) hg4
  have g5 : w4.grownBy (w4.setCell ⟨w.heap.size + 1, 4, none⟩ (.slice (some ⟨g, 0, none⟩) (acc.length + 1) cap)) (some (w.heap.size + 1)) := gb_set (gb_refl _ _) _ _
  have ne : ∀ k, k < w.heap.size + 2 → some k ≠ lv.ownBlock := fun k hk e => by have := hlow k e.symm; omega
  have conv : ∀ x v, VIs w3 (fun k => w.heap.size + 2 ≤ k ∧ k ≠ g0) f x v → VIs (w4.setCell ⟨w.heap.size + 1, 4, none⟩ (.slice (some ⟨g, 0, none⟩) (acc.length + 1) cap)) (fun k => w.heap.size + 2 ≤ k ∧ k ≠ g) f x v := by
    intro x v h
    have h1 := (h.below.grown g34 (fun k hk e => by rcases hlv with h0 | h0 <;> rw [h0] at e <;> simp at e; exact hk.1.2 e)).grown g5 (fun k hk e => by simp at e; omega)
    refine h1.weak fun k hk => ⟨hk.1.1, fun e => ?_⟩
    subst e
    rcases hgg with h0 | h0
    · rcases hlv with h2 | h2
      · rw [h2] at h0; cases h0
      · rw [h2] at h0; cases h0; exact hk.1.2 rfl
    · omega
  refine ⟨acc ++ [t0], st3, g, cap, cs ++ [.int .i64 t0.kind, .int .i64 t0.n, .string ⟨t0.s.toArray⟩, .slice a7 t0.keys.length c7, .slice a8 t0.l.length c8], rfl, hT, by simp only [List.length_append, List.length_cons, List.length_nil]; omega, hl, ?_, ?_, ?_, ?_, ?_, ?_, ?_⟩
  · exact (bxC.grown g34 (ne _ (by omega))).grown g5 (by simp)
  · have := box_setL (bxA.grown g34 (ne _ (by omega))) (.slice (some ⟨g, 0, none⟩) (acc.length + 1) cap)
    simpa using this
  · have := own_kept' ho4 g5 (by omega)
    simpa using this
  · have rx : RowV (VIs (w4.setCell ⟨w.heap.size + 1, 4, none⟩ (.slice (some ⟨g, 0, none⟩) (acc.length + 1) cap)) (fun k => w.heap.size + 2 ≤ k ∧ k ≠ g) f) [t0] [.int .i64 t0.kind, .int .i64 t0.n, .string ⟨t0.s.toArray⟩, .slice a7 t0.keys.length c7, .slice a8 t0.l.length c8] := ⟨_, _, _, _, _, [], rfl, conv _ _ hv, rfl⟩
    exact rx.append (hrow3.imp conv)
  · exact (hr.grown g34 (ne _ (by omega))).grown g5 (by simp; omega)
  · exact (hG.grown g34 (fun k hk => by have := hlow k hk; have := hG.size; omega)).grown g5 (fun k hk => by cases hk; have := hG.size; omega)
  · exact gb_setA (gb_own hg g34 (fun k hk => by have := hlow k hk; omega)) (by omega) _ _

set_option maxRecDepth 100000 in
set_option maxHeartbeats 4000000 in
theorem list_st (f : Nat) (ih : ValC f) (w : World) (b : Nat) (s : ByteArray) (st : Option (List UInt8)) (h : RdSt w b s st) (hG : Glob w) (hb4 : 4 ≤ b) (hf0 : 0 < f) (hlen : (st.getD []).length < f + 1) :
    Calls Tryz.prog 44 #[.pointer (some ⟨b, 0, none⟩)] w fun e w' => ∃ (t : V) (st' : Option (List UInt8)) (a7 a8 : Option Addr) (c7 c8 : Nat),
      e = .returned (.agg #[.int .i64 t.kind, .int .i64 t.n, .string ⟨t.s.toArray⟩, .slice a7 t.keys.length c7, .slice a8 t.l.length c8]) ∧
      VIs w' (fun k => w.heap.size ≤ k) (f + 1) t (.agg #[.int .i64 t.kind, .int .i64 t.n, .string ⟨t.s.toArray⟩, .slice a7 t.keys.length c7, .slice a8 t.l.length c8]) ∧ st.bind (listS (valS f)) = st'.map (fun l => (t, l)) ∧ RdSt w' b s st' ∧ w.grownBy w' (some b) := by
  have H := hidI h
  have HG := hidI hG
  have IH := hidI ih
  have hbl := h.lt
  clear h hG ih
  go_enter Tryz.func44, Tryz.ntmps44
  go_wp2_with fail
  refine (need_st _ b s st 91 91 rfl (by decide) (by exact H.out.grown (gb_alloc (World.grownBy_alloc w _ none) _) (by simp))).mono ?_
  rintro e w1 ⟨rfl, h1, hg1⟩
  have bx1 : Hid (BoxIs w1 w.heap.size (.int .i64 0) (.int .i64 0) (.string ⟨#[]⟩) (.slice none 0 0) (.slice none 0 0) ∧ BoxIs w1 (w.heap.size + 1) (.int .i64 4) (.int .i64 0) (.string ⟨#[]⟩) (.slice none 0 0) (.slice none 0 0)) :=
    ⟨BoxIs.grown (h2a w _ _) hg1 (by simp; omega), BoxIs.grown (h2b w _ _) hg1 (by simp; omega)⟩
  have G1 : Hid (RdSt w1 b s (st.bind (markS 91)) ∧ w.grownBy w1 (some b)) := ⟨h1, gb_trans (gb_alloc (gb_alloc (gb_refl _ _) _) _) hg1⟩
  clear h1 hg1
  go_wp2_with fail
  refine (mark_st _ b s (st.bind (markS 91)) 93 93 rfl (by decide) (by exact G1.out.1)).mono ?_
  rintro e w2 ⟨rfl, h2, hg2⟩
  have bx2 : Hid (BoxIs w2 w.heap.size (.int .i64 0) (.int .i64 0) (.string ⟨#[]⟩) (.slice none 0 0) (.slice none 0 0) ∧ BoxIs w2 (w.heap.size + 1) (.int .i64 4) (.int .i64 0) (.string ⟨#[]⟩) (.slice none 0 0) (.slice none 0 0)) :=
    ⟨bx1.out.1.grown hg2 (by simp; omega), bx1.out.2.grown hg2 (by simp; omega)⟩
  have G2 : Hid (RdSt w2 b s (if ((st.bind (markS 91)).bind (markS 93)).isSome then (st.bind (markS 91)).bind (markS 93) else (st.bind (markS 91)).map (List.dropWhile isSp)) ∧ w.grownBy w2 (some b)) := ⟨h2, gb_trans G1.out.2 hg2⟩
  obtain ⟨x0, x1, x2, x3, x4, y0, y1, y2, y3, y4⟩ := bx2.out.1.c
  obtain ⟨p0, p1, p2, p3, p4, -, -, -, p9, p10⟩ := bx2.out.2.c
  clear h2 hg2 bx1 G1
  cases hm : ((st.bind (markS 91)).bind (markS 93)).isSome with
  | true =>
    have HM := hidI hm
    obtain ⟨z0, z1, z2, z3, z4, -⟩ := (bx2.out.1.set (.int .i64 4) (.int .i64 0) (.string ⟨#[]⟩) (.slice none 0 0) (.slice none 0 0)).c
    have Z : Hid (_ ∧ _ ∧ _ ∧ _ ∧ _) := ⟨z0, z1, z2, z3, z4⟩
    clear z0 z1 z2 z3 z4 hm
    go_wp2_with fail
    obtain ⟨z0, z1, z2, z3, z4⟩ := Z.out
    refine bodyPost_ret (v := leaf 4 0 []) ?_ rfl ?_
    · simp only [set5, str] at z0 z1 z2 z3 z4
      simp [results, Tryz.results44, go_sem, z0, z1, z2, z3, z4, leaf, str]
    · refine ⟨leafV 4 0 [], (st.bind (markS 91)).bind (markS 93), none, none, 0, 0, rfl, leaf_is _ _ f _ _ _ (by unfold I64; omega) (by unfold I64; omega) (by simp), ?_, ?_, ?_⟩
      · rw [listS_next]
        cases hs : st.bind (markS 91) with
        | none => rw [hs] at HM; exact absurd HM.out (by simp)
        | some l =>
          rw [hs] at HM
          cases h9 : markS 93 l with
          | none => simp [h9] at HM; exact absurd HM.out (by simp)
          | some r => simp only [Option.bind_some, h9]; rfl
      · have := G2.out.1
        rw [if_pos HM.out] at this
        exact this.of_heap ((set5_gb w2 w.heap.size _ _ _ _ _).block b this.lt (by simp; omega))
      · exact gb_own G2.out.2 (set5_gb w2 w.heap.size _ _ _ _ _) (by intro k hk; cases hk; exact Nat.le_refl _)
  | false =>
    have HM := hidI hm
    have G3 : Hid (RdSt w2 b s ((st.bind (markS 91)).map (List.dropWhile isSp)) ∧ w.grownBy w2 (some b) ∧ Glob w2) := by
      have := G2.out.1
      rw [if_neg (by rw [HM.out]; simp)] at this
      exact ⟨this, G2.out.2, HG.out.grown G2.out.2 (by intro k hk; cases hk; exact hb4)⟩
    clear hm G2
    have call5 : Hid (∀ W, W.heap = w2.heap → W.os = w2.os → W.tape = w2.tape → W.output = w2.output → Calls Tryz.prog 29 #[.pointer (some ⟨b, 0, none⟩)] W fun e w' => ∃ (t : V) (st' : Option (List UInt8)) (a7 a8 : Option Addr) (c7 c8 : Nat),
        e = .returned (.agg #[.int .i64 t.kind, .int .i64 t.n, .string ⟨t.s.toArray⟩, .slice a7 t.keys.length c7, .slice a8 t.l.length c8]) ∧ VIs w' (fun k => w2.heap.size ≤ k) f t (.agg #[.int .i64 t.kind, .int .i64 t.n, .string ⟨t.s.toArray⟩, .slice a7 t.keys.length c7, .slice a8 t.l.length c8]) ∧ st.bind (listS (valS f)) = itemsT (valS f) [t] st' ∧ (st'.getD []).length < f ∧ 1 + togo st' ≤ 3000 ∧ RdSt w' b s st' ∧ w2.grownBy w' (some b)) := by
      intro W e1 e2 e3 e4
      have hl2 : (((st.bind (markS 91)).map (List.dropWhile isSp)).getD []).length < f := by
        cases hs : st.bind (markS 91) with
        | none => exact hf0
        | some l =>
          cases st with
          | none => cases hs
          | some l0 =>
            have := markS_len (show markS 91 l0 = some l from hs)
            have := dropSp_len l
            simp only [Option.getD_some, Option.map_some] at hlen ⊢
            omega
      have hgW : w2.grownBy W (some b) := ⟨e2, e3, e4, by rw [e1]; exact Nat.le_refl _, fun k _ _ => by rw [e1]⟩
      refine (IH.out W b s _ (G3.out.1.of_heap (by rw [e1])) (G3.out.2.2.same e1) hb4 hl2).mono ?_
      rintro e w' ⟨t, st', a7, a8, c7, c8, rfl, hv, hst, hr, hg⟩
      rw [e1] at hv
      refine ⟨t, st', a7, a8, c7, c8, rfl, hv, list_first HM.out hst, ?_, ?_, hr, gb_trans hgW hg⟩
      · cases st' with
        | none => exact hf0
        | some l' =>
          cases hs : (st.bind (markS 91)).map (List.dropWhile isSp) with
          | none => rw [hs] at hst; cases hst
          | some l1 =>
            rw [hs] at hst hl2
            have := valS_len f l1 _ hst
            simp only [Option.getD_some] at hl2 ⊢
            simp only at this
            omega
      · cases st' with
        | none => simp [togo]
        | some l' => have := hr.len; simp only [togo]; omega
    go_upto_region 5 with fail
    go_cut [] (fun wc => ∃ k, ListI f w b s (st.bind (listS (valS f))) k wc)
    case first =>
      go_region_law ((first | (refine step_appendV (by rfl) _ _ (by rfl) (w.heap.size + 2) (.slice none 0 0) 0 [] t0.kind t0.n ⟨t0.s.toArray⟩ a7 a8 t0.keys.length c7 t0.l.length c8 (by rfl) (by rfl) (World.ownsRow_nil _ _ _ _) hsz3 (by omega) ?_; intro g cap w4 ho4 hg4 hgg4; obtain ⟨x0, x1, x2, x3, x4, y0, y1, y2, y3, y4⟩ := (bx3.out.1.grown (World.grownBy_alloc _ _ none) (by simp)).grown hg4 (by simp [Value.ownBlock]) |>.c; obtain ⟨p0, p1, p2, p3, p4, -, -, -, p9, p10⟩ := (bx3.out.2.grown (World.grownBy_alloc _ _ none) (by simp)).grown hg4 (by simp [Value.ownBlock]) |>.c) | (go_simp; go_at_call 29; refine (call5.out _ (by rfl) (by rfl) (by rfl) (by rfl)).mono ?_; rintro e w3 ⟨t0, st3, a7, a8, c7, c8, rfl, hv3, hT3, hl3, ht3, hr3, hg3⟩; have hsz3 : w.heap.size + 2 ≤ w3.heap.size := Nat.le_trans bx2.out.2.lt hg3.size; have bx3 : Hid (BoxIs w3 w.heap.size (.int .i64 0) (.int .i64 0) (.string ⟨#[]⟩) (.slice none 0 0) (.slice none 0 0) ∧ BoxIs w3 (w.heap.size + 1) (.int .i64 4) (.int .i64 0) (.string ⟨#[]⟩) (.slice none 0 0) (.slice none 0 0)) := ⟨bx2.out.1.grown hg3 (by simp; omega), bx2.out.2.grown hg3 (by simp; omega)⟩; have k4 : ∀ o, (w3.alloc o).cell? ⟨w.heap.size + 1, 4, none⟩ = some (.slice none 0 0) := fun o => (bx3.out.2.grown (World.grownBy_alloc w3 o none) (by simp)).c.2.2.2.2.1; have q4 := bx3.out.2.c.2.2.2.2.1; have V3 : Hid (_ ∧ _ ∧ _ ∧ _ ∧ _ ∧ _) := ⟨hv3, hT3, hl3, ht3, hr3, hg3⟩; clear hv3 hT3 hl3 ht3 hr3 hg3)))
      all_goals
        go_wp2_with fail
        go_meet
        case rel =>
          obtain ⟨hv3, hT3, hl3, ht3, hr3, hg3⟩ := V3.out
          refine ⟨togo st3, listI_mk (acc := []) (g0 := w3.heap.size) hbl bx3.out.1 bx3.out.2 (World.ownsRow_nil _ _ _ _) (.inl rfl) rfl ?_ hT3.symm hl3 (by simpa using ht3) hr3 (G3.out.2.2.grown hg3 (by intro k hk; cases hk; exact hb4)) hb4 (gb_trans G3.out.2.1 hg3) ho4 hg4 hgg4⟩
          exact hv3.below.weak fun k hk => ⟨Nat.le_trans bx2.out.2.lt hk.1, by omega⟩
    case rest =>
      obtain ⟨k0, hI0⟩ := hcut
      have I0 := hidI hI0
      clear hI0 x0 x1 x2 x3 x4 y0 y1 y2 y3 y4 p0 p1 p2 p3 p4 p9 p10 call5 bx2 G3
      go_wp2_with fail
      go_loopg [] k0 (fun k wr => ListI f w b s (st.bind (listS (valS f))) k wr)
      case atStart => exact I0.out
      case round =>
        obtain ⟨acc, st1, g0, cap0, cs, hk, hT, hc, hl1, bxC, bxA, ho, hrow, hr, hGr, hg⟩ := hrel
        have A : Hid (gk = togo st1 ∧ itemsT (valS f) acc st1 = st.bind (listS (valS f)) ∧ acc.length + gk ≤ 3000 ∧ (st1.getD []).length < f ∧ BoxIs wr w.heap.size (.int .i64 0) (.int .i64 0) (.string ⟨#[]⟩) (.slice none 0 0) (.slice none 0 0) ∧ BoxIs wr (w.heap.size + 1) (.int .i64 4) (.int .i64 0) (.string ⟨#[]⟩) (.slice none 0 0) (.slice (some ⟨g0, 0, none⟩) acc.length cap0) ∧ wr.ownsRow (w.heap.size + 2) 25 5 (.slice (some ⟨g0, 0, none⟩) acc.length cap0) acc.length cs ∧ RowV (VIs wr (fun k => w.heap.size + 2 ≤ k ∧ k ≠ g0) f) acc cs ∧ RdSt wr b s st1 ∧ Glob wr ∧ w.grownBy wr (some b)) := ⟨hk, hT, hc, hl1, bxC, bxA, ho, hrow, hr, hGr, hg⟩
        have hacc : acc.length ≤ 3000 := by omega
        clear hk hT hc hl1 bxC bxA ho hrow hr hGr hg
        go_wp2_with fail
        refine (mark_st _ b s st1 44 44 rfl (by decide) (by exact A.out.2.2.2.2.2.2.2.2.1)).mono ?_
        rintro e w2 ⟨rfl, h2, hg2⟩
        have D : Hid (RdSt w2 b s (if (st1.bind (markS 44)).isSome then st1.bind (markS 44) else st1.map (List.dropWhile isSp)) ∧ wr.grownBy w2 (some b) ∧ BoxIs w2 w.heap.size (.int .i64 0) (.int .i64 0) (.string ⟨#[]⟩) (.slice none 0 0) (.slice none 0 0) ∧ BoxIs w2 (w.heap.size + 1) (.int .i64 4) (.int .i64 0) (.string ⟨#[]⟩) (.slice none 0 0) (.slice (some ⟨g0, 0, none⟩) acc.length cap0) ∧ w2.ownsRow (w.heap.size + 2) 25 5 (.slice (some ⟨g0, 0, none⟩) acc.length cap0) acc.length cs ∧ RowV (VIs w2 (fun k => w.heap.size + 2 ≤ k ∧ k ≠ g0) f) acc cs ∧ Glob w2 ∧ w.grownBy w2 (some b)) := by
          obtain ⟨hk, hT, hc, hl1, bxC, bxA, ho, hrow, hr, hGr, hg⟩ := A.out
          exact ⟨h2, hg2, bxC.grown hg2 (by simp; omega), bxA.grown hg2 (by simp; omega), own_kept' ho hg2 (by omega), hrow.imp (fun x v h => h.grown hg2 (fun k hk e => by simp at e; omega)), hGr.grown hg2 (by intro k hk; cases hk; exact hb4), gb_trans hg hg2⟩
        clear h2 hg2
        obtain ⟨x0, x1, x2, x3, x4, y0, y1, y2, y3, y4⟩ := D.out.2.2.1.c
        obtain ⟨p0, p1, p2, p3, p4, -, -, -, p9, p10⟩ := D.out.2.2.2.1.c
        cases hm : (st1.bind (markS 44)).isSome with
        | true =>
          have HM := hidI hm
          have R2 : Hid (RdSt w2 b s (st1.bind (markS 44))) := by have := D.out.1; rw [if_pos hm] at this; exact this
          clear hm
          have call7 : Hid (∀ W, W.heap = w2.heap → W.os = w2.os → W.tape = w2.tape → W.output = w2.output → Calls Tryz.prog 29 #[.pointer (some ⟨b, 0, none⟩)] W fun e w' => ∃ (t : V) (st' : Option (List UInt8)) (a7 a8 : Option Addr) (c7 c8 : Nat),
              e = .returned (.agg #[.int .i64 t.kind, .int .i64 t.n, .string ⟨t.s.toArray⟩, .slice a7 t.keys.length c7, .slice a8 t.l.length c8]) ∧ VIs w' (fun k => w2.heap.size ≤ k) f t (.agg #[.int .i64 t.kind, .int .i64 t.n, .string ⟨t.s.toArray⟩, .slice a7 t.keys.length c7, .slice a8 t.l.length c8]) ∧ st.bind (listS (valS f)) = itemsT (valS f) (acc ++ [t]) st' ∧ togo st' < gk ∧ (st'.getD []).length < f ∧ RdSt w' b s st' ∧ w2.grownBy w' (some b)) := by
            intro W e1 e2 e3 e4
            obtain ⟨hk, hT, hc, hl1, -⟩ := A.out
            have hl2 : ((st1.bind (markS 44)).getD []).length < f := by
              cases st1 with
              | none => exact hf0
              | some l0 =>
                cases hs : markS 44 l0 with
                | none => simp only [Option.bind_some, hs]; exact hf0
                | some l =>
                  have := markS_len hs
                  simp only [Option.bind_some, hs, Option.getD_some] at hl1 ⊢
                  omega
            have hgW : w2.grownBy W (some b) := ⟨e2, e3, e4, by rw [e1]; exact Nat.le_refl _, fun k _ _ => by rw [e1]⟩
            refine (IH.out W b s _ (R2.out.of_heap (by rw [e1])) (D.out.2.2.2.2.2.2.1.same e1) hb4 hl2).mono ?_
            rintro e w' ⟨t, st', a7, a8, c7, c8, rfl, hv, hst, hr, hg⟩
            rw [e1] at hv
            obtain ⟨i1, i2⟩ := items_step (acc := acc) (valS_len f) HM.out hst
            refine ⟨t, st', a7, a8, c7, c8, rfl, hv, by rw [← hT, i1], by rw [hk]; exact i2, ?_, hr, gb_trans hgW hg⟩
            cases st' with
            | none => exact hf0
            | some l' =>
              cases hs : st1.bind (markS 44) with
              | none => rw [hs] at hst; cases hst
              | some l1 =>
                rw [hs] at hst hl2
                have := valS_len f l1 _ hst
                simp only [Option.getD_some] at hl2 ⊢
                simp only at this
                omega
          go_wp2_with fail
          go_region_law ((first | (refine step_appendV (by rfl) _ _ (by rfl) (w.heap.size + 2) (.slice (some ⟨g0, 0, none⟩) acc.length cap0) acc.length cs t0.kind t0.n ⟨t0.s.toArray⟩ a7 a8 t0.keys.length c7 t0.l.length c8 (by rfl) (by rfl) bx3.out.2.2 hsz3 (by omega) ?_; intro g cap w4 ho4 hg4 hgg4; obtain ⟨x0, x1, x2, x3, x4, y0, y1, y2, y3, y4⟩ := (bx3.out.1.grown (World.grownBy_alloc _ _ none) (by simp)).grown hg4 (hne4.out _ (by omega)) |>.c; obtain ⟨p0, p1, p2, p3, p4, -, -, -, p9, p10⟩ := (bx3.out.2.1.grown (World.grownBy_alloc _ _ none) (by simp)).grown hg4 (hne4.out _ (by omega)) |>.c) | (go_simp; go_at_call 29; refine (call7.out _ (by rfl) (by rfl) (by rfl) (by rfl)).mono ?_; rintro e w3 ⟨t0, st3, a7, a8, c7, c8, rfl, hv3, hT3, hl3, ht3, hr3, hg3⟩; have hsz3 : w.heap.size + 2 ≤ w3.heap.size := Nat.le_trans D.out.2.2.2.1.lt hg3.size; have bx3 : Hid (BoxIs w3 w.heap.size (.int .i64 0) (.int .i64 0) (.string ⟨#[]⟩) (.slice none 0 0) (.slice none 0 0) ∧ BoxIs w3 (w.heap.size + 1) (.int .i64 4) (.int .i64 0) (.string ⟨#[]⟩) (.slice none 0 0) (.slice (some ⟨g0, 0, none⟩) acc.length cap0) ∧ w3.ownsRow (w.heap.size + 2) 25 5 (.slice (some ⟨g0, 0, none⟩) acc.length cap0) acc.length cs) := ⟨D.out.2.2.1.grown hg3 (by simp; omega), D.out.2.2.2.1.grown hg3 (by simp; omega), own_kept' D.out.2.2.2.2.1 hg3 (by omega)⟩; have hne4 : Hid (∀ k, k < w.heap.size + 2 → some k ≠ (Value.slice (some ⟨g0, 0, none⟩) acc.length cap0).ownBlock) := (fun k hk e => by have := (bx3.out.2.2.lt k e.symm).1; omega); have k4 : ∀ o, (w3.alloc o).cell? ⟨w.heap.size + 1, 4, none⟩ = some (.slice (some ⟨g0, 0, none⟩) acc.length cap0) := fun o => (bx3.out.2.1.grown (World.grownBy_alloc w3 o none) (by simp)).c.2.2.2.2.1; have q4 := bx3.out.2.1.c.2.2.2.2.1; have V3 : Hid (_ ∧ _ ∧ _ ∧ _ ∧ _ ∧ _) := ⟨hv3, hT3, hl3, ht3, hr3, hg3⟩; clear hv3 hT3 hl3 ht3 hr3 hg3)))
          all_goals
            go_wp2_with fail
            obtain ⟨hv3, hT3, htg3, hl3, hr3, hg3⟩ := V3.out
            go_roundg (togo st3)
            case measure => exact htg3
            case rel =>
              refine listI_mk (g0 := g0) hbl bx3.out.1 bx3.out.2.1 bx3.out.2.2 (.inr rfl) (D.out.2.2.2.2.2.1.imp fun x v h => h.grown hg3 (fun k hk e => by simp at e; omega)) ?_ hT3.symm hl3 (by have := A.out.2.2.1; omega) hr3 (D.out.2.2.2.2.2.2.1.grown hg3 (by intro k hk; cases hk; exact hb4)) hb4 (gb_trans D.out.2.2.2.2.2.2.2 hg3) ho4 hg4 hgg4
              exact hv3.weak fun k hk => ⟨Nat.le_trans D.out.2.2.2.1.lt hk, fun e => by have := (D.out.2.2.2.2.1.lt g0 rfl).2; omega⟩
        | false =>
          have HM := hidI hm
          have R2 : Hid (RdSt w2 b s (st1.map (List.dropWhile isSp))) := by have := D.out.1; rw [if_neg (by rw [hm]; simp)] at this; exact this
          clear hm
          go_wp2_with fail
          refine (need_st _ b s _ 93 93 rfl (by decide) (by exact R2.out)).mono ?_
          rintro e w3 ⟨rfl, h3, hg3⟩
          have E : Hid (RdSt w3 b s ((st1.map (List.dropWhile isSp)).bind (markS 93)) ∧ w.grownBy w3 (some b) ∧ BoxIs w3 w.heap.size (.int .i64 0) (.int .i64 0) (.string ⟨#[]⟩) (.slice none 0 0) (.slice none 0 0) ∧ BoxIs w3 (w.heap.size + 1) (.int .i64 4) (.int .i64 0) (.string ⟨#[]⟩) (.slice none 0 0) (.slice (some ⟨g0, 0, none⟩) acc.length cap0) ∧ w3.ownsRow (w.heap.size + 2) 25 5 (.slice (some ⟨g0, 0, none⟩) acc.length cap0) acc.length cs ∧ RowV (VIs w3 (fun k => w.heap.size + 2 ≤ k ∧ k ≠ g0) f) acc cs) := by
            obtain ⟨d1, d2, bxC, bxA, ho, hrow, hGr, hg⟩ := D.out
            exact ⟨h3, gb_trans hg hg3, bxC.grown hg3 (by simp; omega), bxA.grown hg3 (by simp; omega), own_kept' ho hg3 (by omega), hrow.imp (fun x v h => h.grown hg3 (fun k hk e => by simp at e; omega))⟩
          clear h3 hg3 x0 x1 x2 x3 x4 y0 y1 y2 y3 y4 p0 p1 p2 p3 p4 p9 p10
          obtain ⟨x0, x1, x2, x3, x4, y0, y1, y2, y3, y4⟩ := E.out.2.2.1.c
          obtain ⟨p0, p1, p2, p3, p4, -⟩ := E.out.2.2.2.1.c
          obtain ⟨z0, z1, z2, z3, z4, -⟩ := (E.out.2.2.1.set (.int .i64 4) (.int .i64 0) (.string ⟨#[]⟩) (.slice none 0 0) (.slice (some ⟨g0, 0, none⟩) acc.length cap0)).c
          have Z : Hid (_ ∧ _ ∧ _ ∧ _ ∧ _) := ⟨z0, z1, z2, z3, z4⟩
          clear z0 z1 z2 z3 z4
          go_wp2_with fail
          obtain ⟨z0, z1, z2, z3, z4⟩ := Z.out
          refine bodyPost_ret (v := .agg #[.int .i64 4, .int .i64 0, .string ⟨#[]⟩, .slice none 0 0, .slice (some ⟨g0, 0, none⟩) acc.length cap0]) ?_ rfl ?_
          · simp only [set5] at z0 z1 z2 z3 z4
            simp [results, Tryz.results44, go_sem, z0, z1, z2, z3, z4]
          · obtain ⟨e1, e2, e3, e4, e5, e6⟩ := E.out
            have g5 := set5_gb w3 w.heap.size (.int .i64 4) (.int .i64 0) (.string ⟨#[]⟩) (.slice none 0 0) (.slice (some ⟨g0, 0, none⟩) acc.length cap0)
            refine ⟨⟨4, 0, [], [], acc⟩, (st1.map (List.dropWhile isSp)).bind (markS 93), none, some ⟨g0, 0, none⟩, 0, cap0, rfl, ?_, ?_, ?_, ?_⟩
            · refine ⟨_, _, rfl, by unfold I64; simp, by unfold I64; simp, by simp, ⟨by simp, .inl ⟨rfl, none, rfl⟩⟩, ?_⟩
              have e6' : RowV (VIs (set5 w3 w.heap.size (.int .i64 4) (.int .i64 0) (.string ⟨#[]⟩) (.slice none 0 0) (.slice (some ⟨g0, 0, none⟩) acc.length cap0)) (fun k => w.heap.size ≤ k) f) acc cs :=
                e6.imp fun x v h => (h.grown g5 (fun k hk e => by simp at e; omega)).weak fun k hk => by omega
              exact own_vals rfl (own_kept' e5 g5 (by omega)) e6' (fun k hk => by omega) (by unfold maxLen; simp only; omega)
            · rw [← A.out.2.1, items_end HM.out]
            · exact e1.of_heap (g5.block b e1.lt (by simp; omega))
            · exact gb_own e2 g5 (by intro k hk; cases hk; exact Nat.le_refl _)
end Go.Proofs.YtkboplcffailoaaGreatDoor

/- What member of json's reader does, if value and With do what is said of them. -/
set_option linter.unusedSimpArgs false
set_option linter.unusedVariables false
namespace Go.Proofs.YtkboplcffailoaaGreatDoor
open Go.RowKit

theorem VIs.form {w : World} {ok : Nat → Prop} {d : Nat} {t : V} {v : Value} (h : VIs w ok d t v) : ∃ (a7 a8 : Option Addr) (c7 c8 : Nat), v = (.agg #[.int .i64 t.kind, .int .i64 t.n, .string ⟨t.s.toArray⟩, .slice a7 t.keys.length c7, .slice a8 t.l.length c8]) := by
  match d, h with
  | d + 1, h =>
    obtain ⟨ks, ls, e, h1, h2, h3, h4, h5⟩ := h
    obtain ⟨a1, c1, rfl⟩ := h4.form
    obtain ⟨a2, c2, rfl⟩ := h5.form
    exact ⟨_, _, _, _, e⟩
theorem withV_paired {t : V} {key : List UInt8} {x : V} (hp : pairedV t = true) : pairedV (withV t key x) = true ∧ (withV t key x).l.length ≤ t.l.length + 1 := by
  have hk : t.kind = 5 ∧ t.keys.length = t.l.length := by simpa [pairedV] using hp
  unfold withV
  rw [if_pos hp]
  split
  · rename_i i hi
    have := (idxL_lt hi).1
    simp only [pairedV, Bool.and_eq_true, decide_eq_true_eq, List.length_append, List.length_cons, List.length_take, List.length_drop]
    omega
  · simp only [pairedV, Bool.and_eq_true, decide_eq_true_eq, List.length_append, List.length_cons, List.length_take, List.length_drop]
    omega
theorem memS_of {g : List UInt8 → Option (V × List UInt8)} {t x : V} {key : List UInt8} {st st1 st3 : Option (List UInt8)} (h1 : st.bind quotS = st1.map (fun l => (key, l))) (h3 : (st1.bind (markS 58)).bind g = st3.map (fun l => (x, l))) :
    st.bind (memS g t) = if (memV t key).isSome then none else st3.map (fun l => (withV t key x, l)) := by
  have e : st.bind (memS g t) = (st.bind quotS).bind fun q => (markS 58 q.2).bind fun l => (g l).bind fun p => if (memV t q.1).isSome then none else some (withV t q.1 p.1, p.2) := by
    cases st <;> rfl
  rw [e, h1]
  cases st1 with
  | none =>
    cases st3 with
    | none => simp
    | some l => cases h3
  | some l1 =>
    simp only [Option.map_some, Option.bind_some] at h3 ⊢
    cases hm : markS 58 l1 with
    | none =>
      rw [hm] at h3
      cases st3 with
      | none => simp
      | some l => cases h3
    | some l2 =>
      rw [hm] at h3
      simp only [Option.bind_some] at h3 ⊢
      rw [h3]
      cases st3 <;> simp

set_option maxRecDepth 100000 in
set_option maxHeartbeats 4000000 in
theorem member_st (hW : WithC) (f : Nat) (ih : ValC f) (w : World) (b B : Nat) (s : ByteArray) (st : Option (List UInt8)) (t : V) (a7 a8 : Option Addr) (c7 c8 : Nat) (h : RdSt w b s st) (hG : Glob w) (hb4 : 4 ≤ b) (hf0 : 0 < f) (hlen : (st.getD []).length < f + 1) (hbB : b < B) (hBw : B ≤ w.heap.size)
    (hv : VIs w (fun k => B ≤ k) (f + 1) t (.agg #[.int .i64 t.kind, .int .i64 t.n, .string ⟨t.s.toArray⟩, .slice a7 t.keys.length c7, .slice a8 t.l.length c8])) (hp : pairedV t = true) (htl : t.l.length ≤ 10000) :
    Calls Tryz.prog 57 #[.pointer (some ⟨b, 0, none⟩), (.agg #[.int .i64 t.kind, .int .i64 t.n, .string ⟨t.s.toArray⟩, .slice a7 t.keys.length c7, .slice a8 t.l.length c8])] w fun e w' => ∃ (t' : V) (st' : Option (List UInt8)) (a5 a6 : Option Addr) (c5 c6 : Nat),
      e = .returned (.agg #[.int .i64 t'.kind, .int .i64 t'.n, .string ⟨t'.s.toArray⟩, .slice a5 t'.keys.length c5, .slice a6 t'.l.length c6]) ∧ VIs w' (fun k => B ≤ k) (f + 1) t' (.agg #[.int .i64 t'.kind, .int .i64 t'.n, .string ⟨t'.s.toArray⟩, .slice a5 t'.keys.length c5, .slice a6 t'.l.length c6]) ∧ pairedV t' = true ∧ t'.l.length ≤ t.l.length + 1 ∧
      st.bind (memS (valS f) t) = st'.map (fun l => (t', l)) ∧ RdSt w' b s st' ∧ w.grownBy w' (some b) := by
  have H : Hid (RdSt w b s st ∧ Glob w) := ⟨h, hG⟩
  have HV := hidI hv
  have IH := hidI ih
  have HW := hidI hW
  have HP := hidI hp
  have hbl := h.lt
  clear h hG hv ih hW hp
  go_enter Tryz.func57, Tryz.ntmps57
  go_wp2_with fail
  refine (quoted_st _ b s st (by exact H.out.1.grown (gb_alloc (World.grownBy_alloc w _ none) _) (by simp))).mono ?_
  rintro e w1 ⟨key, st1, rfl, hq, hkl, h1, hg1⟩
  have K1 : Hid (st.bind quotS = st1.map (fun l => (key, l)) ∧ RdSt w1 b s st1 ∧ w.grownBy w1 (some b) ∧ BoxIs w1 w.heap.size (.int .i64 t.kind) (.int .i64 t.n) (.string ⟨t.s.toArray⟩) (.slice a7 t.keys.length c7) (.slice a8 t.l.length c8) ∧ BoxIs w1 (w.heap.size + 1) (.int .i64 0) (.int .i64 0) (.string ⟨#[]⟩) (.slice none 0 0) (.slice none 0 0)) :=
    ⟨hq, h1, gb_trans (gb_alloc (gb_alloc (gb_refl _ _) _) _) hg1, BoxIs.grown (h2a w _ _) hg1 (by simp; omega), BoxIs.grown (h2b w _ _) hg1 (by simp; omega)⟩
  clear hq h1 hg1
  go_wp2_with fail
  refine (need_st _ b s st1 58 58 rfl (by decide) (by exact K1.out.2.1)).mono ?_
  rintro e w2 ⟨rfl, h2, hg2⟩
  have K2 : Hid (RdSt w2 b s (st1.bind (markS 58)) ∧ w.grownBy w2 (some b) ∧ BoxIs w2 w.heap.size (.int .i64 t.kind) (.int .i64 t.n) (.string ⟨t.s.toArray⟩) (.slice a7 t.keys.length c7) (.slice a8 t.l.length c8) ∧ BoxIs w2 (w.heap.size + 1) (.int .i64 0) (.int .i64 0) (.string ⟨#[]⟩) (.slice none 0 0) (.slice none 0 0) ∧ Glob w2) :=
    ⟨h2, gb_trans K1.out.2.2.1 hg2, K1.out.2.2.2.1.grown hg2 (by simp; omega), K1.out.2.2.2.2.grown hg2 (by simp; omega), H.out.2.grown (gb_trans K1.out.2.2.1 hg2) (by intro k hk; cases hk; exact hb4)⟩
  have hl2 : Hid (((st1.bind (markS 58)).getD []).length < f) := by
    show _ < _
    cases st1 with
    | none => exact hf0
    | some l1 =>
      cases hm : markS 58 l1 with
      | none => simp only [Option.bind_some, hm]; exact hf0
      | some l2 =>
        cases st with
        | none => have := K1.out.1; cases this
        | some l0 =>
          have h9 := quotS_len (show quotS l0 = some (key, l1) from K1.out.1)
          have := markS_len hm
          simp only [Option.bind_some, hm, Option.getD_some] at hlen ⊢
          simp only at h9
          omega
  clear h2 hg2
  go_wp2_with fail
  refine (IH.out _ b s _ (by exact K2.out.1) (by exact K2.out.2.2.2.2) hb4 hl2.out).mono ?_
  rintro e w3 ⟨x, st3, a5, a6, c5, c6, rfl, hx, hst3, h3, hg3⟩
  have K3 : Hid ((st1.bind (markS 58)).bind (valS f) = st3.map (fun l => (x, l)) ∧ RdSt w3 b s st3 ∧ w.grownBy w3 (some b) ∧ BoxIs w3 w.heap.size (.int .i64 t.kind) (.int .i64 t.n) (.string ⟨t.s.toArray⟩) (.slice a7 t.keys.length c7) (.slice a8 t.l.length c8) ∧ BoxIs w3 (w.heap.size + 1) (.int .i64 0) (.int .i64 0) (.string ⟨#[]⟩) (.slice none 0 0) (.slice none 0 0) ∧
      VIs w3 (fun k => B ≤ k ∧ k ≠ w.heap.size + 1) f x (.agg #[.int .i64 x.kind, .int .i64 x.n, .string ⟨x.s.toArray⟩, .slice a5 x.keys.length c5, .slice a6 x.l.length c6]) ∧ VIs w3 (fun k => B ≤ k ∧ k ≠ w.heap.size + 1) (f + 1) t (.agg #[.int .i64 t.kind, .int .i64 t.n, .string ⟨t.s.toArray⟩, .slice a7 t.keys.length c7, .slice a8 t.l.length c8])) :=
    ⟨hst3, h3, gb_trans K2.out.2.1 hg3, K2.out.2.2.1.grown hg3 (by simp; omega), K2.out.2.2.2.1.grown hg3 (by simp; omega), hx.weak (fun k hk => ⟨Nat.le_trans (Nat.le_trans hBw K2.out.2.1.size) hk, by have := K2.out.2.2.2.1.lt; omega⟩), (HV.out.below.weak (fun k hk => ⟨hk.1, by omega⟩)).grown (gb_trans K2.out.2.1 hg3) (fun k hk e => by cases e; omega)⟩
  have hsz3 : w.heap.size + 1 < w3.heap.size := K3.out.2.2.2.2.1.lt
  obtain ⟨p0, p1, p2, p3, p4, -⟩ := K3.out.2.2.2.1.c
  clear hst3 h3 hg3 hx
  have r0 : ∀ o, (w3.alloc o).cell? ⟨w.heap.size, 0, none⟩ = some (.int .i64 t.kind) := fun o => (K3.out.2.2.2.1.grown (World.grownBy_alloc w3 o none) (by simp)).c.1
  have r1 : ∀ o, (w3.alloc o).cell? ⟨w.heap.size, 1, none⟩ = some (.int .i64 t.n) := fun o => (K3.out.2.2.2.1.grown (World.grownBy_alloc w3 o none) (by simp)).c.2.1
  have r2 : ∀ o, (w3.alloc o).cell? ⟨w.heap.size, 2, none⟩ = some (.string ⟨t.s.toArray⟩) := fun o => (K3.out.2.2.2.1.grown (World.grownBy_alloc w3 o none) (by simp)).c.2.2.1
  have r3 : ∀ o, (w3.alloc o).cell? ⟨w.heap.size, 3, none⟩ = some (.slice a7 t.keys.length c7) := fun o => (K3.out.2.2.2.1.grown (World.grownBy_alloc w3 o none) (by simp)).c.2.2.2.1
  have r4 : ∀ o, (w3.alloc o).cell? ⟨w.heap.size, 4, none⟩ = some (.slice a8 t.l.length c8) := fun o => (K3.out.2.2.2.1.grown (World.grownBy_alloc w3 o none) (by simp)).c.2.2.2.2.1
  go_wp2_with fail
  refine (member_at _ (fun k => B ≤ k ∧ k ≠ w.heap.size + 1) (f + 1) t _ key (by exact K3.out.2.2.2.2.2.2.bel (bel_alloc _ _))).mono ?_
  rintro e w4 ⟨xm, bm, rfl, hb4', hmem⟩
  have B4 : Hid (Below w3.heap.size w3 w4) := bel_trans (bel_alloc _ _) hb4'
  have bxX : Hid (BoxIs w4 w3.heap.size (.int .i64 x.kind) (.int .i64 x.n) (.string ⟨x.s.toArray⟩) (.slice a5 x.keys.length c5) (.slice a6 x.l.length c6)) := box_bel hb4' (heap_alloc_new w3 _)
  have hsz4 : w3.heap.size < w4.heap.size := bxX.out.lt
  clear hb4' p0 p1 p2 p3 p4 r0 r1 r2 r3 r4
  have bxV : Hid (∀ o, BoxIs (w4.alloc o) w.heap.size (.int .i64 t.kind) (.int .i64 t.n) (.string ⟨t.s.toArray⟩) (.slice a7 t.keys.length c7) (.slice a8 t.l.length c8) ∧ BoxIs (w4.alloc o) w3.heap.size (.int .i64 x.kind) (.int .i64 x.n) (.string ⟨x.s.toArray⟩) (.slice a5 x.keys.length c5) (.slice a6 x.l.length c6) ∧ BoxIs (w4.alloc o) (w.heap.size + 1) (.int .i64 0) (.int .i64 0) (.string ⟨#[]⟩) (.slice none 0 0) (.slice none 0 0)) :=
    fun o => ⟨box_bel (bel_trans B4.out (bel_alloc w4 o)) K3.out.2.2.2.1, box_bel (bel_alloc w4 o) bxX.out, box_bel (bel_trans B4.out (bel_alloc w4 o)) K3.out.2.2.2.2.1⟩
  have s0 : ∀ o, (w4.alloc o).cell? ⟨w.heap.size, 0, none⟩ = some (.int .i64 t.kind) := fun o => (bxV.out o).1.c.1
  have s1 : ∀ o, (w4.alloc o).cell? ⟨w.heap.size, 1, none⟩ = some (.int .i64 t.n) := fun o => (bxV.out o).1.c.2.1
  have s2 : ∀ o, (w4.alloc o).cell? ⟨w.heap.size, 2, none⟩ = some (.string ⟨t.s.toArray⟩) := fun o => (bxV.out o).1.c.2.2.1
  have s3 : ∀ o, (w4.alloc o).cell? ⟨w.heap.size, 3, none⟩ = some (.slice a7 t.keys.length c7) := fun o => (bxV.out o).1.c.2.2.2.1
  have s4 : ∀ o, (w4.alloc o).cell? ⟨w.heap.size, 4, none⟩ = some (.slice a8 t.l.length c8) := fun o => (bxV.out o).1.c.2.2.2.2.1
  have v0 : ∀ o, (w4.alloc o).cell? ⟨w3.heap.size, 0, none⟩ = some (.int .i64 x.kind) := fun o => (bxV.out o).2.1.c.1
  have v1 : ∀ o, (w4.alloc o).cell? ⟨w3.heap.size, 1, none⟩ = some (.int .i64 x.n) := fun o => (bxV.out o).2.1.c.2.1
  have v2 : ∀ o, (w4.alloc o).cell? ⟨w3.heap.size, 2, none⟩ = some (.string ⟨x.s.toArray⟩) := fun o => (bxV.out o).2.1.c.2.2.1
  have v3 : ∀ o, (w4.alloc o).cell? ⟨w3.heap.size, 3, none⟩ = some (.slice a5 x.keys.length c5) := fun o => (bxV.out o).2.1.c.2.2.2.1
  have v4 : ∀ o, (w4.alloc o).cell? ⟨w3.heap.size, 4, none⟩ = some (.slice a6 x.l.length c6) := fun o => (bxV.out o).2.1.c.2.2.2.2.1
  have hws : Hid (st.bind (memS (valS f) t) = if (memV t key).isSome then none else st3.map (fun l => (withV t key x, l))) := memS_of K1.out.1 K3.out.1
  have hklm : key.length ≤ maxLen := by unfold maxLen; omega
  cases hmv : memV t key with
  | none =>
    rw [hmv] at hmem hws
    obtain ⟨rfl, rfl⟩ := hmem
    unfold leaf str
    go_wp2_with fail
    refine (HW.out _ (fun k => B ≤ k ∧ k ≠ w.heap.size + 1) f t x _ _ key (by exact K3.out.2.2.2.2.2.2.bel (bel_trans B4.out (bel_alloc _ _))) (by exact K3.out.2.2.2.2.2.1.bel (bel_trans B4.out (bel_alloc _ _))) HP.out (by omega) hklm).mono ?_
    rintro e w5 ⟨r, rfl, hr5, hb5⟩
    obtain ⟨e5, e6, d5, d6, rfl⟩ := hr5.form
    have G5 : Hid (VIs w5 (fun k => B ≤ k ∧ k ≠ w.heap.size + 1) (f + 1) (withV t key x) (.agg #[.int .i64 (withV t key x).kind, .int .i64 (withV t key x).n, .string ⟨(withV t key x).s.toArray⟩, .slice e5 (withV t key x).keys.length d5, .slice e6 (withV t key x).l.length d6]) ∧ w.grownBy w5 (some b) ∧ RdSt w5 b s st3 ∧ BoxIs w5 (w.heap.size + 1) (.int .i64 0) (.int .i64 0) (.string ⟨#[]⟩) (.slice none 0 0) (.slice none 0 0)) := by
      refine ⟨hr5.weak fun k hk => ?_, ?_, ?_, ?_⟩
      · rcases hk with hk | hk
        · exact hk
        · have := K3.out.2.2.1.size
          simp at hk
          exact ⟨by omega, by omega⟩
      · exact gb_own (gb_own (gb_own K3.out.2.2.1 (gb_below (r := none) B4.out) (by simp)) (World.grownBy_alloc w4 _ none) (by simp)) (gb_below (r := none) hb5) (by simp)
      · exact K3.out.2.1.of_heap (((gb_trans (gb_trans (gb_below (r := none) B4.out) (World.grownBy_alloc w4 _ none)) (gb_below hb5)).block b K3.out.2.1.lt (by simp)))
      · exact box_bel hb5 (bxV.out _).2.2
    clear hr5 hb5
    obtain ⟨x0, x1, x2, x3, x4, y0, y1, y2, y3, y4⟩ := G5.out.2.2.2.c
    obtain ⟨z0, z1, z2, z3, z4, -⟩ := (G5.out.2.2.2.set (.int .i64 (withV t key x).kind) (.int .i64 (withV t key x).n) (.string ⟨(withV t key x).s.toArray⟩) (.slice e5 (withV t key x).keys.length d5) (.slice e6 (withV t key x).l.length d6)).c
    have Z : Hid (_ ∧ _ ∧ _ ∧ _ ∧ _) := ⟨z0, z1, z2, z3, z4⟩
    clear z0 z1 z2 z3 z4
    go_wp2_with fail
    obtain ⟨z0, z1, z2, z3, z4⟩ := Z.out
    refine bodyPost_ret (v := (.agg #[.int .i64 (withV t key x).kind, .int .i64 (withV t key x).n, .string ⟨(withV t key x).s.toArray⟩, .slice e5 (withV t key x).keys.length d5, .slice e6 (withV t key x).l.length d6])) ?_ rfl ?_
    · simp only [set5] at z0 z1 z2 z3 z4
      simp [results, Tryz.results57, go_sem, z0, z1, z2, z3, z4]
    · obtain ⟨g1, g2, g3, g4⟩ := G5.out
      have g5 := set5_gb w5 (w.heap.size + 1) (.int .i64 (withV t key x).kind) (.int .i64 (withV t key x).n) (.string ⟨(withV t key x).s.toArray⟩) (.slice e5 (withV t key x).keys.length d5) (.slice e6 (withV t key x).l.length d6)
      have hwp := withV_paired (key := key) (x := x) HP.out
      refine ⟨withV t key x, st3, e5, e6, d5, d6, rfl, ?_, hwp.1, hwp.2, ?_, g3.of_heap (g5.block b g3.lt (by simp; omega)), gb_own g2 g5 (by intro k hk; cases hk; omega)⟩
      · exact (g1.grown g5 (fun k hk e => by simp at e; exact hk.2 e)).weak fun k hk => hk.1
      · rw [hws.out]; rfl
  | some y =>
    rw [hmv] at hmem hws
    obtain ⟨rfl, hy⟩ := hmem
    obtain ⟨i5, i6, j5, j6, rfl⟩ := hy.form
    clear hy
    go_wp2_with fail
    refine (fail_st _ b s st3 (by exact K3.out.2.1.of_heap (((gb_trans (gb_below (r := none) B4.out) (World.grownBy_alloc w4 _ none))).block b K3.out.2.1.lt (by simp)))).mono ?_
    rintro e w6 ⟨rfl, h6, hg6⟩
    have G6 : Hid (RdSt w6 b s none ∧ w.grownBy w6 (some b) ∧ VIs w6 (fun k => B ≤ k ∧ k ≠ w.heap.size + 1) (f + 1) t (.agg #[.int .i64 t.kind, .int .i64 t.n, .string ⟨t.s.toArray⟩, .slice a7 t.keys.length c7, .slice a8 t.l.length c8]) ∧ VIs w6 (fun k => B ≤ k ∧ k ≠ w.heap.size + 1) f x (.agg #[.int .i64 x.kind, .int .i64 x.n, .string ⟨x.s.toArray⟩, .slice a5 x.keys.length c5, .slice a6 x.l.length c6]) ∧ BoxIs w6 (w.heap.size + 1) (.int .i64 0) (.int .i64 0) (.string ⟨#[]⟩) (.slice none 0 0) (.slice none 0 0) ∧ w.heap.size ≤ w6.heap.size) := by
      have ga : w3.grownBy w6 (some b) := gb_trans (gb_trans (gb_below B4.out) (World.grownBy_alloc w4 _ _)) hg6
      exact ⟨h6, gb_trans K3.out.2.2.1 ga, K3.out.2.2.2.2.2.2.grown ga (fun k hk e => by cases e; omega), K3.out.2.2.2.2.2.1.grown ga (fun k hk e => by cases e; omega), K3.out.2.2.2.2.1.grown ga (by simp; omega), Nat.le_trans K3.out.2.2.1.size ga.size⟩
    have t0 := (bxV.out (.cells #[.int .i64 y.kind, .int .i64 y.n, .string ⟨y.s.toArray⟩, .slice i5 y.keys.length j5, .slice i6 y.l.length j6] 25))
    obtain ⟨s0', s1', s2', s3', s4', -⟩ := (t0.1.grown hg6 (by simp; omega)).c
    obtain ⟨v0', v1', v2', v3', v4', -⟩ := (t0.2.1.grown hg6 (by simp; have := K3.out.2.2.1.size; omega)).c
    have hsz6 := hg6.size
    clear h6 hg6 t0
    go_wp2_with fail
    refine (HW.out _ (fun k => B ≤ k ∧ k ≠ w.heap.size + 1) f t x _ _ key (by exact G6.out.2.2.1) (by exact G6.out.2.2.2.1) HP.out (by omega) hklm).mono ?_
    rintro e w5 ⟨r, rfl, hr5, hb5⟩
    obtain ⟨e5, e6, d5, d6, rfl⟩ := hr5.form
    have G5 : Hid (VIs w5 (fun k => B ≤ k ∧ k ≠ w.heap.size + 1) (f + 1) (withV t key x) (.agg #[.int .i64 (withV t key x).kind, .int .i64 (withV t key x).n, .string ⟨(withV t key x).s.toArray⟩, .slice e5 (withV t key x).keys.length d5, .slice e6 (withV t key x).l.length d6]) ∧ w.grownBy w5 (some b) ∧ RdSt w5 b s (none : Option (List UInt8)) ∧ BoxIs w5 (w.heap.size + 1) (.int .i64 0) (.int .i64 0) (.string ⟨#[]⟩) (.slice none 0 0) (.slice none 0 0)) := by
      refine ⟨hr5.weak fun k hk => ?_, ?_, ?_, ?_⟩
      · rcases hk with hk | hk
        · exact hk
        · have := G6.out.2.2.2.2.2
          exact ⟨by omega, by have := G6.out.2.2.2.2.1.lt; omega⟩
      · exact gb_own (gb_trans G6.out.2.1 (gb_refl _ _)) (gb_below (r := none) hb5) (by simp)
      · exact G6.out.1.of_heap ((gb_below (r := none) hb5).block b G6.out.1.lt (by simp))
      · exact box_bel hb5 G6.out.2.2.2.2.1
    clear hr5 hb5
    obtain ⟨x0, x1, x2, x3, x4, y0, y1, y2, y3, y4⟩ := G5.out.2.2.2.c
    obtain ⟨z0, z1, z2, z3, z4, -⟩ := (G5.out.2.2.2.set (.int .i64 (withV t key x).kind) (.int .i64 (withV t key x).n) (.string ⟨(withV t key x).s.toArray⟩) (.slice e5 (withV t key x).keys.length d5) (.slice e6 (withV t key x).l.length d6)).c
    have Z : Hid (_ ∧ _ ∧ _ ∧ _ ∧ _) := ⟨z0, z1, z2, z3, z4⟩
    clear z0 z1 z2 z3 z4
    go_wp2_with fail
    obtain ⟨z0, z1, z2, z3, z4⟩ := Z.out
    refine bodyPost_ret (v := (.agg #[.int .i64 (withV t key x).kind, .int .i64 (withV t key x).n, .string ⟨(withV t key x).s.toArray⟩, .slice e5 (withV t key x).keys.length d5, .slice e6 (withV t key x).l.length d6])) ?_ rfl ?_
    · simp only [set5] at z0 z1 z2 z3 z4
      simp [results, Tryz.results57, go_sem, z0, z1, z2, z3, z4]
    · obtain ⟨g1, g2, g3, g4⟩ := G5.out
      have g5 := set5_gb w5 (w.heap.size + 1) (.int .i64 (withV t key x).kind) (.int .i64 (withV t key x).n) (.string ⟨(withV t key x).s.toArray⟩) (.slice e5 (withV t key x).keys.length d5) (.slice e6 (withV t key x).l.length d6)
      have hwp := withV_paired (key := key) (x := x) HP.out
      refine ⟨withV t key x, (none : Option (List UInt8)), e5, e6, d5, d6, rfl, ?_, hwp.1, hwp.2, ?_, g3.of_heap (g5.block b g3.lt (by simp; omega)), gb_own g2 g5 (by intro k hk; cases hk; omega)⟩
      · exact (g1.grown g5 (fun k hk e => by simp at e; exact hk.2 e)).weak fun k hk => hk.1
      · rw [hws.out]; rfl
end Go.Proofs.YtkboplcffailoaaGreatDoor

/- What object of json's reader does, if value and With do what is said of them. -/
set_option linter.unusedSimpArgs false
set_option linter.unusedVariables false
namespace Go.Proofs.YtkboplcffailoaaGreatDoor
open Go.RowKit

theorem membsS_fuel {g : List UInt8 → Option (V × List UInt8)} (hg : Less g) (n : Nat) : ∀ (m : Nat) (v : V) (l : List UInt8), l.length < n → l.length < m → membsS g n v l = membsS g m v l := by
  induction n with
  | zero => intro m v l h; omega
  | succ n ih =>
    intro m v l h1 h2
    cases m with
    | zero => omega
    | succ m =>
      simp only [membsS]
      split
      · rename_i r hr
        have := markS_len hr
        cases hgr : memS g v r with
        | none => rfl
        | some p =>
          have := memS_len hg _ _ _ hgr
          exact ih m _ _ (by omega) (by omega)
      · rfl
def membsT (g : List UInt8 → Option (V × List UInt8)) (v : V) (st : Option (List UInt8)) : Option (V × List UInt8) := st.bind fun l => membsS g (l.length + 1) v l
theorem membs_step {g : List UInt8 → Option (V × List UInt8)} (hg : Less g) {v t0 : V} {st1 st3 : Option (List UInt8)} (h2 : (st1.bind (markS 44)).isSome = true) (h3 : (st1.bind (markS 44)).bind (memS g v) = st3.map (fun l => (t0, l))) :
    membsT g v st1 = membsT g t0 st3 ∧ togo st3 < togo st1 := by
  cases st1 with
  | none => cases h2
  | some l =>
    cases hm : markS 44 l with
    | none => simp [hm] at h2
    | some r =>
      have hr := markS_len hm
      simp only [Option.bind_some, hm] at h3
      have e : membsT g v (some l) = (memS g v r).bind fun p => membsS g l.length p.1 p.2 := by
        show membsS g (l.length + 1) v l = _
        simp only [membsS, hm]
      rw [e, h3]
      cases st3 with
      | none => exact ⟨rfl, by simp [togo]⟩
      | some l3 =>
        have hl := memS_len hg _ _ _ h3
        simp only at hl
        exact ⟨membsS_fuel hg _ _ _ _ (by simp only; omega) (by simp only; omega), by simp only [togo]; omega⟩
theorem membs_end {g : List UInt8 → Option (V × List UInt8)} {v : V} {st1 : Option (List UInt8)} (h2 : (st1.bind (markS 44)).isSome = false) :
    membsT g v st1 = ((st1.map (List.dropWhile isSp)).bind (markS 125)).map fun r => (v, r) := by
  cases st1 with
  | none => rfl
  | some l =>
    cases hm : markS 44 l with
    | some r => simp [hm] at h2
    | none =>
      show membsS g (l.length + 1) v l = _
      simp only [membsS, hm]; rfl
theorem objS_next {g : List UInt8 → Option (V × List UInt8)} {st : Option (List UInt8)} :
    st.bind (objS g) = (st.bind (markS 123)).bind fun l => match markS 125 l with | some r => some (⟨5, 0, [], [], []⟩, r) | none => (memS g ⟨5, 0, [], [], []⟩ (l.dropWhile isSp)).bind fun p => membsS g (p.2.length + 1) p.1 p.2 := by
  cases st <;> rfl
theorem obj_first {g : List UInt8 → Option (V × List UInt8)} {st st3 : Option (List UInt8)} {t0 : V} (h2 : ((st.bind (markS 123)).bind (markS 125)).isSome = false)
    (h3 : ((st.bind (markS 123)).map (List.dropWhile isSp)).bind (memS g ⟨5, 0, [], [], []⟩) = st3.map (fun l => (t0, l))) : st.bind (objS g) = membsT g t0 st3 := by
  rw [objS_next]
  cases hs : st.bind (markS 123) with
  | none =>
    rw [hs] at h3
    cases st3 with
    | none => rfl
    | some l => cases h3
  | some l =>
    rw [hs] at h2 h3
    simp only [Option.bind_some] at h2 ⊢
    have hm : markS 125 l = none := by cases hm : markS 125 l with
      | none => rfl
      | some r => simp [hm] at h2
    rw [hm]
    have h3' : memS g ⟨5, 0, [], [], []⟩ (l.dropWhile isSp) = st3.map (fun l => (t0, l)) := h3
    simp only [h3']
    cases st3 <;> rfl

/- What holds ahead of each comma. -/
def ObjI (f : Nat) (w : World) (b : Nat) (s : ByteArray) (T : Option (V × List UInt8)) (k : Nat) (wr : World) : Prop :=
  ∃ (t : V) (st1 : Option (List UInt8)) (a7 a8 : Option Addr) (c7 c8 : Nat), k = togo st1 ∧ membsT (valS f) t st1 = T ∧ t.l.length + k ≤ 3000 ∧ (st1.getD []).length < f + 1 ∧ BoxIs wr w.heap.size (.int .i64 0) (.int .i64 0) (.string ⟨#[]⟩) (.slice none 0 0) (.slice none 0 0) ∧ BoxIs wr (w.heap.size + 1) (.int .i64 t.kind) (.int .i64 t.n) (.string ⟨t.s.toArray⟩) (.slice a7 t.keys.length c7) (.slice a8 t.l.length c8) ∧
    VIs wr (fun k => w.heap.size + 2 ≤ k) (f + 1) t (.agg #[.int .i64 t.kind, .int .i64 t.n, .string ⟨t.s.toArray⟩, .slice a7 t.keys.length c7, .slice a8 t.l.length c8]) ∧ pairedV t = true ∧ RdSt wr b s st1 ∧ Glob wr ∧ w.grownBy wr (some b)

theorem objI_mk {f : Nat} {w w3 : World} {b : Nat} {s : ByteArray} {T : Option (V × List UInt8)} {t : V} {st3 : Option (List UInt8)} {a7 a8 : Option Addr} {c7 c8 : Nat} {d0 d1 d2 d3 d4 : Value} (hb4 : 4 ≤ b) (hbl : b < w.heap.size)
    (bxC : BoxIs w3 w.heap.size (.int .i64 0) (.int .i64 0) (.string ⟨#[]⟩) (.slice none 0 0) (.slice none 0 0)) (bxA : BoxIs w3 (w.heap.size + 1) d0 d1 d2 d3 d4) (hv : VIs w3 (fun k => w.heap.size + 2 ≤ k) (f + 1) t (.agg #[.int .i64 t.kind, .int .i64 t.n, .string ⟨t.s.toArray⟩, .slice a7 t.keys.length c7, .slice a8 t.l.length c8])) (hp : pairedV t = true) (hT : membsT (valS f) t st3 = T) (hl : (st3.getD []).length < f + 1) (hc : t.l.length + togo st3 ≤ 3000)
    (hr : RdSt w3 b s st3) (hG : Glob w3) (hg : w.grownBy w3 (some b)) : ObjI f w b s T (togo st3) (set5 w3 (w.heap.size + 1) (.int .i64 t.kind) (.int .i64 t.n) (.string ⟨t.s.toArray⟩) (.slice a7 t.keys.length c7) (.slice a8 t.l.length c8)) := by
  have g5 := set5_gb w3 (w.heap.size + 1) (.int .i64 t.kind) (.int .i64 t.n) (.string ⟨t.s.toArray⟩) (.slice a7 t.keys.length c7) (.slice a8 t.l.length c8)
  exact ⟨t, st3, a7, a8, c7, c8, rfl, hT, hc, hl, bxC.grown g5 (by simp), bxA.set _ _ _ _ _, hv.grown g5 (fun k hk e => by simp at e; omega), hp, hr.of_heap (g5.block b hr.lt (by simp; omega)),
    hG.grown g5 (fun k hk => by cases hk; omega), gb_own hg g5 (by intro k hk; cases hk; omega)⟩

set_option maxRecDepth 100000 in
set_option maxHeartbeats 4000000 in
theorem object_st (hW : WithC) (f : Nat) (ih : ValC f) (w : World) (b : Nat) (s : ByteArray) (st : Option (List UInt8)) (h : RdSt w b s st) (hG : Glob w) (hb4 : 4 ≤ b) (hf0 : 0 < f) (hlen : (st.getD []).length < f + 1) :
    Calls Tryz.prog 45 #[.pointer (some ⟨b, 0, none⟩)] w fun e w' => ∃ (t : V) (st' : Option (List UInt8)) (a7 a8 : Option Addr) (c7 c8 : Nat),
      e = .returned (.agg #[.int .i64 t.kind, .int .i64 t.n, .string ⟨t.s.toArray⟩, .slice a7 t.keys.length c7, .slice a8 t.l.length c8]) ∧ VIs w' (fun k => w.heap.size ≤ k) (f + 1) t (.agg #[.int .i64 t.kind, .int .i64 t.n, .string ⟨t.s.toArray⟩, .slice a7 t.keys.length c7, .slice a8 t.l.length c8]) ∧ st.bind (objS (valS f)) = st'.map (fun l => (t, l)) ∧ RdSt w' b s st' ∧ w.grownBy w' (some b) := by
  have H := hidI h
  have HG := hidI hG
  have IH := hidI ih
  have HW := hidI hW
  have hbl := h.lt
  clear h hG ih hW
  go_enter Tryz.func45, Tryz.ntmps45
  go_wp2_with fail
  refine (need_st _ b s st 123 123 rfl (by decide) (by exact H.out.grown (gb_alloc (World.grownBy_alloc w _ none) _) (by simp))).mono ?_
  rintro e w1 ⟨rfl, h1, hg1⟩
  have bx1 : Hid (BoxIs w1 w.heap.size (.int .i64 0) (.int .i64 0) (.string ⟨#[]⟩) (.slice none 0 0) (.slice none 0 0) ∧ BoxIs w1 (w.heap.size + 1) (.int .i64 5) (.int .i64 0) (.string ⟨#[]⟩) (.slice none 0 0) (.slice none 0 0)) :=
    ⟨BoxIs.grown (h2a w _ _) hg1 (by simp; omega), BoxIs.grown (h2b w _ _) hg1 (by simp; omega)⟩
  have G1 : Hid (RdSt w1 b s (st.bind (markS 123)) ∧ w.grownBy w1 (some b)) := ⟨h1, gb_trans (gb_alloc (gb_alloc (gb_refl _ _) _) _) hg1⟩
  clear h1 hg1
  go_wp2_with fail
  refine (mark_st _ b s (st.bind (markS 123)) 125 125 rfl (by decide) (by exact G1.out.1)).mono ?_
  rintro e w2 ⟨rfl, h2, hg2⟩
  have bx2 : Hid (BoxIs w2 w.heap.size (.int .i64 0) (.int .i64 0) (.string ⟨#[]⟩) (.slice none 0 0) (.slice none 0 0) ∧ BoxIs w2 (w.heap.size + 1) (.int .i64 5) (.int .i64 0) (.string ⟨#[]⟩) (.slice none 0 0) (.slice none 0 0)) := ⟨bx1.out.1.grown hg2 (by simp; omega), bx1.out.2.grown hg2 (by simp; omega)⟩
  have G2 : Hid (RdSt w2 b s (if ((st.bind (markS 123)).bind (markS 125)).isSome then (st.bind (markS 123)).bind (markS 125) else (st.bind (markS 123)).map (List.dropWhile isSp)) ∧ w.grownBy w2 (some b)) := ⟨h2, gb_trans G1.out.2 hg2⟩
  obtain ⟨x0, x1, x2, x3, x4, y0, y1, y2, y3, y4⟩ := bx2.out.1.c
  obtain ⟨p0, p1, p2, p3, p4, q0, q1, q2, q3, q4⟩ := bx2.out.2.c
  clear h2 hg2 bx1 G1
  cases hm : ((st.bind (markS 123)).bind (markS 125)).isSome with
  | true =>
    have HM := hidI hm
    obtain ⟨z0, z1, z2, z3, z4, -⟩ := (bx2.out.1.set (.int .i64 5) (.int .i64 0) (.string ⟨#[]⟩) (.slice none 0 0) (.slice none 0 0)).c
    have Z : Hid (_ ∧ _ ∧ _ ∧ _ ∧ _) := ⟨z0, z1, z2, z3, z4⟩
    clear z0 z1 z2 z3 z4 hm
    go_wp2_with fail
    obtain ⟨z0, z1, z2, z3, z4⟩ := Z.out
    refine bodyPost_ret (v := leaf 5 0 []) ?_ rfl ?_
    · simp only [set5, str] at z0 z1 z2 z3 z4
      simp [results, Tryz.results45, go_sem, z0, z1, z2, z3, z4, leaf, str]
    · refine ⟨leafV 5 0 [], (st.bind (markS 123)).bind (markS 125), none, none, 0, 0, rfl, leaf_is _ _ f _ _ _ (by unfold I64; omega) (by unfold I64; omega) (by simp), ?_, ?_, ?_⟩
      · rw [objS_next]
        cases hs : st.bind (markS 123) with
        | none => rw [hs] at HM; exact absurd HM.out (by simp)
        | some l =>
          rw [hs] at HM
          cases h9 : markS 125 l with
          | none => simp [h9] at HM; exact absurd HM.out (by simp)
          | some r => simp only [Option.bind_some, h9]; rfl
      · have := G2.out.1
        rw [if_pos HM.out] at this
        exact this.of_heap ((set5_gb w2 w.heap.size _ _ _ _ _).block b this.lt (by simp; omega))
      · exact gb_own G2.out.2 (set5_gb w2 w.heap.size _ _ _ _ _) (by intro k hk; cases hk; exact Nat.le_refl _)
  | false =>
    have HM := hidI hm
    have G3 : Hid (RdSt w2 b s ((st.bind (markS 123)).map (List.dropWhile isSp)) ∧ w.grownBy w2 (some b) ∧ Glob w2) := by
      have := G2.out.1
      rw [if_neg (by rw [HM.out]; simp)] at this
      exact ⟨this, G2.out.2, HG.out.grown G2.out.2 (by intro k hk; cases hk; exact hb4)⟩
    clear hm G2
    have call5 : Hid (Calls Tryz.prog 57 #[.pointer (some ⟨b, 0, none⟩), .agg #[.int .i64 5, .int .i64 0, .string ⟨#[]⟩, .slice none 0 0, .slice none 0 0]] w2 fun e w' => ∃ (t : V) (st' : Option (List UInt8)) (a7 a8 : Option Addr) (c7 c8 : Nat),
        e = .returned (.agg #[.int .i64 t.kind, .int .i64 t.n, .string ⟨t.s.toArray⟩, .slice a7 t.keys.length c7, .slice a8 t.l.length c8]) ∧ VIs w' (fun k => w.heap.size + 2 ≤ k) (f + 1) t (.agg #[.int .i64 t.kind, .int .i64 t.n, .string ⟨t.s.toArray⟩, .slice a7 t.keys.length c7, .slice a8 t.l.length c8]) ∧ pairedV t = true ∧ st.bind (objS (valS f)) = membsT (valS f) t st' ∧ (st'.getD []).length < f + 1 ∧ t.l.length + togo st' ≤ 3000 ∧ RdSt w' b s st' ∧ w2.grownBy w' (some b)) := by
      have hl2 : (((st.bind (markS 123)).map (List.dropWhile isSp)).getD []).length < f := by
        cases hs : st.bind (markS 123) with
        | none => exact hf0
        | some l =>
          cases st with
          | none => cases hs
          | some l0 =>
            have := markS_len (show markS 123 l0 = some l from hs)
            have := dropSp_len l
            simp only [Option.getD_some, Option.map_some] at hlen ⊢
            omega
      refine (member_st HW.out f IH.out w2 b (w.heap.size + 2) s _ ⟨5, 0, [], [], []⟩ none none 0 0 G3.out.1 G3.out.2.2 hb4 hf0 (by omega) (by omega) bx2.out.2.lt (leaf_is w2 _ f 5 0 [] (by unfold I64; omega) (by unfold I64; omega) (by simp)) rfl (by simp)).mono ?_
      rintro e w' ⟨t, st', a7, a8, c7, c8, rfl, hv, hp, htl, hst, hr, hg⟩
      refine ⟨t, st', a7, a8, c7, c8, rfl, hv, hp, obj_first HM.out hst, ?_, ?_, hr, hg⟩
      · cases st' with
        | none => simp
        | some l' =>
          cases hs : (st.bind (markS 123)).map (List.dropWhile isSp) with
          | none => rw [hs] at hst; cases hst
          | some l1 =>
            rw [hs] at hst hl2
            have := memS_len (valS_len f) _ l1 _ hst
            simp only [Option.getD_some] at hl2 ⊢
            simp only at this
            omega
      · simp only [List.length_nil] at htl
        cases st' with
        | none => simp only [togo]; omega
        | some l' => have := hr.len; simp only [togo]; omega
    go_wp2_with fail
    refine (call5.out).mono ?_
    rintro e w3 ⟨t, st3, a7, a8, c7, c8, rfl, hv3, hp3, hT3, hl3, hc3, hr3, hg3⟩
    have I0 : Hid (ObjI f w b s (st.bind (objS (valS f))) (togo st3) (set5 w3 (w.heap.size + 1) (.int .i64 t.kind) (.int .i64 t.n) (.string ⟨t.s.toArray⟩) (.slice a7 t.keys.length c7) (.slice a8 t.l.length c8))) :=
      objI_mk hb4 hbl (bx2.out.1.grown hg3 (by simp; omega)) (bx2.out.2.grown hg3 (by simp; omega)) hv3 hp3 hT3.symm hl3 hc3 hr3 (G3.out.2.2.grown hg3 (by intro k hk; cases hk; exact hb4)) (gb_trans G3.out.2.1 hg3)
    clear p0 p1 p2 p3 p4 q0 q1 q2 q3 q4
    obtain ⟨p0, p1, p2, p3, p4, q0, q1, q2, q3, q4⟩ := (bx2.out.2.grown hg3 (by simp; omega)).c
    clear hv3 hp3 hT3 hl3 hc3 hr3 hg3 x0 x1 x2 x3 x4 y0 y1 y2 y3 y4
    go_wp2_with fail
    go_loopg [] (togo st3) (fun k wr => ObjI f w b s (st.bind (objS (valS f))) k wr)
    case atStart => exact I0.out
    case round =>
      clear p0 p1 p2 p3 p4 q0 q1 q2 q3 q4 I0 call5 bx2 G3
      obtain ⟨t, st1, a7, a8, c7, c8, hk, hT, hc, hl1, bxC, bxA, hv, hp, hr, hGr, hg⟩ := hrel
      have A : Hid (gk = togo st1 ∧ membsT (valS f) t st1 = st.bind (objS (valS f)) ∧ t.l.length + gk ≤ 3000 ∧ (st1.getD []).length < f + 1 ∧ BoxIs wr w.heap.size (.int .i64 0) (.int .i64 0) (.string ⟨#[]⟩) (.slice none 0 0) (.slice none 0 0) ∧ BoxIs wr (w.heap.size + 1) (.int .i64 t.kind) (.int .i64 t.n) (.string ⟨t.s.toArray⟩) (.slice a7 t.keys.length c7) (.slice a8 t.l.length c8) ∧ VIs wr (fun k => w.heap.size + 2 ≤ k) (f + 1) t (.agg #[.int .i64 t.kind, .int .i64 t.n, .string ⟨t.s.toArray⟩, .slice a7 t.keys.length c7, .slice a8 t.l.length c8]) ∧ pairedV t = true ∧ RdSt wr b s st1 ∧ Glob wr ∧ w.grownBy wr (some b)) := ⟨hk, hT, hc, hl1, bxC, bxA, hv, hp, hr, hGr, hg⟩
      have htl : t.l.length ≤ 3000 := by omega
      clear hk hT hc hl1 bxC bxA hv hp hr hGr hg
      go_wp2_with fail
      refine (mark_st _ b s st1 44 44 rfl (by decide) (by exact A.out.2.2.2.2.2.2.2.2.1)).mono ?_
      rintro e w2 ⟨rfl, h2, hg2⟩
      have D : Hid (RdSt w2 b s (if (st1.bind (markS 44)).isSome then st1.bind (markS 44) else st1.map (List.dropWhile isSp)) ∧ BoxIs w2 w.heap.size (.int .i64 0) (.int .i64 0) (.string ⟨#[]⟩) (.slice none 0 0) (.slice none 0 0) ∧ BoxIs w2 (w.heap.size + 1) (.int .i64 t.kind) (.int .i64 t.n) (.string ⟨t.s.toArray⟩) (.slice a7 t.keys.length c7) (.slice a8 t.l.length c8) ∧ VIs w2 (fun k => w.heap.size + 2 ≤ k) (f + 1) t (.agg #[.int .i64 t.kind, .int .i64 t.n, .string ⟨t.s.toArray⟩, .slice a7 t.keys.length c7, .slice a8 t.l.length c8]) ∧ Glob w2 ∧ w.grownBy w2 (some b)) := by
        obtain ⟨hk, hT, hc, hl1, bxC, bxA, hv, hp, hr, hGr, hg⟩ := A.out
        exact ⟨h2, bxC.grown hg2 (by simp; omega), bxA.grown hg2 (by simp; omega), hv.grown hg2 (fun k hk e => by simp at e; omega), hGr.grown hg2 (by intro k hk; cases hk; exact hb4), gb_trans hg hg2⟩
      clear h2 hg2
      obtain ⟨p0, p1, p2, p3, p4, q0, q1, q2, q3, q4⟩ := D.out.2.2.1.c
      cases hm : (st1.bind (markS 44)).isSome with
      | true =>
        have HM := hidI hm
        have R2 : Hid (RdSt w2 b s (st1.bind (markS 44))) := by have := D.out.1; rw [if_pos hm] at this; exact this
        clear hm
        go_wp2_with fail
        have hl2 : Hid (((st1.bind (markS 44)).getD []).length < f + 1) := by
          show _ < _
          have hl1 := A.out.2.2.2.1
          cases st1 with
          | none => simp
          | some l0 =>
            cases hs : markS 44 l0 with
            | none => simp only [Option.bind_some, hs]; simp
            | some l =>
              have := markS_len hs
              simp only [Option.bind_some, hs, Option.getD_some] at hl1 ⊢
              omega
        refine (member_st HW.out f IH.out _ b (w.heap.size + 2) s _ t a7 a8 c7 c8 (by exact R2.out) (by exact D.out.2.2.2.2.1) hb4 hf0 hl2.out (by omega) (by exact D.out.2.2.1.lt) (by exact D.out.2.2.2.1) A.out.2.2.2.2.2.2.2.1 (by omega)).mono ?_
        rintro e w3 ⟨t', st3, a5, a6, c5, c6, rfl, hv3, hp3, htl3, hst3, hr3, hg3⟩
        have V3 : Hid (ObjI f w b s (st.bind (objS (valS f))) (togo st3) (set5 w3 (w.heap.size + 1) (.int .i64 t'.kind) (.int .i64 t'.n) (.string ⟨t'.s.toArray⟩) (.slice a5 t'.keys.length c5) (.slice a6 t'.l.length c6)) ∧ togo st3 < gk) := by
          obtain ⟨hk, hT, hc, hl1, -⟩ := A.out
          obtain ⟨i1, i2⟩ := membs_step (valS_len f) HM.out hst3
          refine ⟨objI_mk hb4 hbl (D.out.2.1.grown hg3 (by simp; omega)) (D.out.2.2.1.grown hg3 (by simp; omega)) hv3 hp3 (by rw [← hT, i1]) ?_ (by omega) hr3 (D.out.2.2.2.2.1.grown hg3 (by intro k hk; cases hk; exact hb4)) (gb_trans D.out.2.2.2.2.2 hg3), by rw [hk]; exact i2⟩
          cases st3 with
          | none => simp
          | some l' =>
            cases hs : st1.bind (markS 44) with
            | none => rw [hs] at hst3; cases hst3
            | some l1 =>
              rw [hs] at hst3
              have := memS_len (valS_len f) _ l1 _ hst3
              have h8 := hl2.out
              rw [hs] at h8
              simp only [Option.getD_some] at h8 ⊢
              simp only at this
              omega
        clear p0 p1 p2 p3 p4 q0 q1 q2 q3 q4
        obtain ⟨p0, p1, p2, p3, p4, q0, q1, q2, q3, q4⟩ := (D.out.2.2.1.grown hg3 (by simp; omega)).c
        clear hv3 hp3 htl3 hst3 hr3 hg3
        go_wp2_with fail
        go_roundg (togo st3)
        case measure => exact V3.out.2
        case rel => exact V3.out.1
      | false =>
        have HM := hidI hm
        have R2 : Hid (RdSt w2 b s (st1.map (List.dropWhile isSp))) := by have := D.out.1; rw [if_neg (by rw [hm]; simp)] at this; exact this
        clear hm
        go_wp2_with fail
        refine (need_st _ b s _ 125 125 rfl (by decide) (by exact R2.out)).mono ?_
        rintro e w3 ⟨rfl, h3, hg3⟩
        have E : Hid (RdSt w3 b s ((st1.map (List.dropWhile isSp)).bind (markS 125)) ∧ w.grownBy w3 (some b) ∧ BoxIs w3 w.heap.size (.int .i64 0) (.int .i64 0) (.string ⟨#[]⟩) (.slice none 0 0) (.slice none 0 0) ∧ BoxIs w3 (w.heap.size + 1) (.int .i64 t.kind) (.int .i64 t.n) (.string ⟨t.s.toArray⟩) (.slice a7 t.keys.length c7) (.slice a8 t.l.length c8) ∧ VIs w3 (fun k => w.heap.size + 2 ≤ k) (f + 1) t (.agg #[.int .i64 t.kind, .int .i64 t.n, .string ⟨t.s.toArray⟩, .slice a7 t.keys.length c7, .slice a8 t.l.length c8])) :=
          ⟨h3, gb_trans D.out.2.2.2.2.2 hg3, D.out.2.1.grown hg3 (by simp; omega), D.out.2.2.1.grown hg3 (by simp; omega), D.out.2.2.2.1.grown hg3 (fun k hk e => by simp at e; omega)⟩
        clear h3 hg3 p0 p1 p2 p3 p4 q0 q1 q2 q3 q4
        obtain ⟨x0, x1, x2, x3, x4, y0, y1, y2, y3, y4⟩ := E.out.2.2.1.c
        obtain ⟨p0, p1, p2, p3, p4, -⟩ := E.out.2.2.2.1.c
        obtain ⟨z0, z1, z2, z3, z4, -⟩ := (E.out.2.2.1.set (.int .i64 t.kind) (.int .i64 t.n) (.string ⟨t.s.toArray⟩) (.slice a7 t.keys.length c7) (.slice a8 t.l.length c8)).c
        have Z : Hid (_ ∧ _ ∧ _ ∧ _ ∧ _) := ⟨z0, z1, z2, z3, z4⟩
        clear z0 z1 z2 z3 z4
        go_wp2_with fail
        obtain ⟨z0, z1, z2, z3, z4⟩ := Z.out
        refine bodyPost_ret (v := (.agg #[.int .i64 t.kind, .int .i64 t.n, .string ⟨t.s.toArray⟩, .slice a7 t.keys.length c7, .slice a8 t.l.length c8])) ?_ rfl ?_
        · simp only [set5] at z0 z1 z2 z3 z4
          simp [results, Tryz.results45, go_sem, z0, z1, z2, z3, z4]
        · obtain ⟨e1, e2, e3, e4, e5⟩ := E.out
          have g5 := set5_gb w3 w.heap.size (.int .i64 t.kind) (.int .i64 t.n) (.string ⟨t.s.toArray⟩) (.slice a7 t.keys.length c7) (.slice a8 t.l.length c8)
          refine ⟨t, (st1.map (List.dropWhile isSp)).bind (markS 125), a7, a8, c7, c8, rfl, (e5.grown g5 (fun k hk e => by simp at e; omega)).weak (fun k hk => by omega), ?_, e1.of_heap (g5.block b e1.lt (by simp; omega)), gb_own e2 g5 (by intro k hk; cases hk; exact Nat.le_refl _)⟩
          rw [← A.out.2.1, membs_end HM.out]
end Go.Proofs.YtkboplcffailoaaGreatDoor

/- What value of json's reader does: what valS says. -/
set_option linter.unusedSimpArgs false
set_option linter.unusedVariables false
namespace Go.Proofs.YtkboplcffailoaaGreatDoor
open Go.RowKit

theorem spaces_st (w : World) (b : Nat) (s : ByteArray) (st : Option (List UInt8)) (h : RdSt w b s st) :
    Calls Tryz.prog 30 #[.pointer (some ⟨b, 0, none⟩)] w fun e w' => e = .returned (.tuple #[]) ∧ RdSt w' b s (st.map (List.dropWhile isSp)) ∧ w.grownBy w' (some b) := by
  refine (spaces_at w b s _ _ h).mono ?_
  rintro e w' ⟨he, hr, hg⟩
  refine ⟨he, ?_, hg⟩
  cases st with
  | none => exact hr
  | some l => exact hr
theorem valS_next (f : Nat) (st : Option (List UInt8)) : st.bind (valS (f + 1)) = (st.map (List.dropWhile isSp)).bind (oneS (valS f)) := by cases st <;> rfl
theorem hd_ne {l : List UInt8} {c : UInt8} {m : Int} (hm : m = (c.toNat : Int)) (h : hd0 l ≠ c) : (((hd0 l).toNat : Int) == m) = false := u8_ne hm h
theorem hd_eq {l : List UInt8} {c : UInt8} {m : Int} (hm : m = (c.toNat : Int)) (h : hd0 l = c) : (((hd0 l).toNat : Int) == m) = true := by rw [h, hm]; simp

/- The answer, put into the result's block. -/
theorem val_fin {f : Nat} {w w3 : World} {b : Nat} {s : ByteArray} {st st' : Option (List UInt8)} {t : V} {a7 a8 : Option Addr} {c7 c8 : Nat} (hbl : b < w.heap.size) (hv : VIs w3 (fun k => w.heap.size + 1 ≤ k) (f + 1) t (.agg #[.int .i64 t.kind, .int .i64 t.n, .string ⟨t.s.toArray⟩, .slice a7 t.keys.length c7, .slice a8 t.l.length c8]))
    (hst : st.bind (valS (f + 1)) = st'.map (fun l => (t, l))) (hr : RdSt w3 b s st') (hg : w.grownBy w3 (some b)) (hbx : BoxIs w3 w.heap.size (.int .i64 0) (.int .i64 0) (.string ⟨#[]⟩) (.slice none 0 0) (.slice none 0 0)) :
    BoxIs (set5 w3 w.heap.size (.int .i64 t.kind) (.int .i64 t.n) (.string ⟨t.s.toArray⟩) (.slice a7 t.keys.length c7) (.slice a8 t.l.length c8)) w.heap.size (.int .i64 t.kind) (.int .i64 t.n) (.string ⟨t.s.toArray⟩) (.slice a7 t.keys.length c7) (.slice a8 t.l.length c8) ∧ VIs (set5 w3 w.heap.size (.int .i64 t.kind) (.int .i64 t.n) (.string ⟨t.s.toArray⟩) (.slice a7 t.keys.length c7) (.slice a8 t.l.length c8)) (fun k => w.heap.size ≤ k) (f + 1) t (.agg #[.int .i64 t.kind, .int .i64 t.n, .string ⟨t.s.toArray⟩, .slice a7 t.keys.length c7, .slice a8 t.l.length c8]) ∧ RdSt (set5 w3 w.heap.size (.int .i64 t.kind) (.int .i64 t.n) (.string ⟨t.s.toArray⟩) (.slice a7 t.keys.length c7) (.slice a8 t.l.length c8)) b s st' ∧ w.grownBy (set5 w3 w.heap.size (.int .i64 t.kind) (.int .i64 t.n) (.string ⟨t.s.toArray⟩) (.slice a7 t.keys.length c7) (.slice a8 t.l.length c8)) (some b) := by
  have g5 := set5_gb w3 w.heap.size (.int .i64 t.kind) (.int .i64 t.n) (.string ⟨t.s.toArray⟩) (.slice a7 t.keys.length c7) (.slice a8 t.l.length c8)
  exact ⟨hbx.set _ _ _ _ _, (hv.grown g5 (fun k hk e => by simp at e; omega)).weak (fun k hk => by omega), hr.of_heap (g5.block b hr.lt (by simp; omega)), gb_own hg g5 (by intro k hk; cases hk; exact Nat.le_refl _)⟩

set_option maxRecDepth 100000 in
set_option maxHeartbeats 8000000 in
theorem value_succ (hW : WithC) (f : Nat) (ih : ValC f) : ValC (f + 1) := by
  intro w b s st h hG hb4 hlen
  have H := hidI h
  have HG := hidI hG
  have IH := hidI ih
  have HW := hidI hW
  have hbl := h.lt
  clear h hG ih hW
  go_enter Tryz.func29, Tryz.ntmps29
  go_wp2_with fail
  refine (spaces_st _ b s st (by exact H.out.grown (World.grownBy_alloc w _ none) (by simp))).mono ?_
  rintro e w1 ⟨rfl, h1, hg1⟩
  have K1 : Hid (RdSt w1 b s (st.map (List.dropWhile isSp)) ∧ w.grownBy w1 (some b) ∧ BoxIs w1 w.heap.size (.int .i64 0) (.int .i64 0) (.string ⟨#[]⟩) (.slice none 0 0) (.slice none 0 0) ∧ Glob w1) := by
    have g := gb_trans (gb_alloc (gb_refl w (some b)) _) hg1
    exact ⟨h1, g, BoxIs.grown (heap_alloc_new w _) hg1 (by simp; omega), HG.out.grown g (by intro k hk; cases hk; exact hb4)⟩
  clear h1 hg1
  go_wp2_with fail
  refine (ahead_at _ b s ((st.map (List.dropWhile isSp)).getD []) (st.map (List.dropWhile isSp)).isNone (by exact K1.out.1)).mono ?_
  rintro e w2 ⟨rfl, n2, hw2⟩
  have K2 : Hid (RdSt w2 b s (st.map (List.dropWhile isSp)) ∧ w.grownBy w2 (some b) ∧ BoxIs w2 w.heap.size (.int .i64 0) (.int .i64 0) (.string ⟨#[]⟩) (.slice none 0 0) (.slice none 0 0) ∧ Glob w2) := by
    rw [hw2]; exact ⟨K1.out.1.of_heap rfl, gb_drewN K1.out.2.1 _, K1.out.2.2.1, K1.out.2.2.2.same rfl⟩
  have hsz2 : w.heap.size + 1 ≤ w2.heap.size := K2.out.2.2.1.lt
  clear hw2 K1
  have N : Hid (st.bind (valS (f + 1)) = (st.map (List.dropWhile isSp)).bind (oneS (valS f))) := valS_next f st
  have hlen2 : Hid ((((st.map (List.dropWhile isSp)).getD []).length < f + 1)) := by
    show _ < _
    cases st with
    | none => simp
    | some l => have := dropSp_len l; simp only [Option.getD_some, Option.map_some] at hlen ⊢; omega
  obtain ⟨st1, hst1⟩ : ∃ st1, st1 = st.map (List.dropWhile isSp) := ⟨_, rfl⟩
  rw [← hst1] at K2 N hlen2 ⊢
  have HST := hidI hst1
  clear hst1
  by_cases q110 : hd0 (st1.getD []) = 110
  · have d := hd_eq (m := 110) rfl q110
    have E : Hid (st1.bind (oneS (valS f)) = (st1.bind (wordS [110, 117, 108, 108])).map fun r => (leafV 0 0 [], r)) := by
      cases st1 with
      | none => rfl
      | some l =>
        have q : hd0 l = 110 := q110
        show oneS (valS f) l = _
        simp only [oneS, q]
        rfl
    go_wp2_with fail
    refine (word_st _ b s st1 ⟨#[110, 117, 108, 108]⟩ 0 0 (by unfold I64; omega) (by unfold I64; omega) (by decide) (by decide) (by exact K2.out.1)).mono ?_
    rintro e w3 ⟨t, v, st3, rfl, ⟨kk, nn, rfl, rfl, hkk, hnn⟩, hst3, hr3, hg3⟩
    have HSTF : Hid (st.bind (valS (f + 1)) = st3.map (fun l => (leafV kk nn [], l))) := by show _ = _; rw [N.out, E.out]; exact hst3
    have HBX : BoxIs w3 w.heap.size (.int .i64 0) (.int .i64 0) (.string ⟨#[]⟩) (.slice none 0 0) (.slice none 0 0) := K2.out.2.2.1.grown hg3 (by simp; omega)
    have HVV : VIs w3 (fun k => w.heap.size + 1 ≤ k) (f + 1) (leafV kk nn []) (leaf kk nn []) := leaf_is _ _ f _ _ _ hkk hnn (by simp)
    have HGG := gb_trans K2.out.2.1 hg3
    have HRR := hr3
    have HST2 := HSTF.out
    clear hst3 hr3 hg3
    unfold leaf str
    have FIN := hidI (val_fin (f := f) (a7 := none) (a8 := none) (c7 := 0) (c8 := 0) hbl HVV HST2 HRR HGG HBX)
    obtain ⟨x0, x1, x2, x3, x4, y0, y1, y2, y3, y4⟩ := HBX.c
    obtain ⟨z0, z1, z2, z3, z4, -⟩ := (HBX.set (.int .i64 kk) (.int .i64 nn) (.string ⟨#[]⟩) (.slice none 0 0) (.slice none 0 0)).c
    clear HVV HST2 HRR HGG HBX
    have Z : Hid (_ ∧ _ ∧ _ ∧ _ ∧ _) := ⟨z0, z1, z2, z3, z4⟩
    clear z0 z1 z2 z3 z4
    go_wp2_with fail
    obtain ⟨z0, z1, z2, z3, z4⟩ := Z.out
    refine bodyPost_ret (v := leaf kk nn []) ?_ rfl ?_
    · simp only [set5] at z0 z1 z2 z3 z4
      simp [results, Tryz.results29, go_sem, z0, z1, z2, z3, z4, leaf, leafV, str]
    · exact ⟨leafV kk nn [], st3, none, none, 0, 0, rfl, FIN.out.2.1, HSTF.out, FIN.out.2.2.1, FIN.out.2.2.2⟩
  have n110 := hd_ne (m := 110) rfl q110
  by_cases q102 : hd0 (st1.getD []) = 102
  · have d := hd_eq (m := 102) rfl q102
    have E : Hid (st1.bind (oneS (valS f)) = (st1.bind (wordS [102, 97, 108, 115, 101])).map fun r => (leafV 1 0 [], r)) := by
      cases st1 with
      | none => rfl
      | some l =>
        have q : hd0 l = 102 := q102
        show oneS (valS f) l = _
        simp only [oneS, q]
        rfl
    go_wp2_with fail
    refine (word_st _ b s st1 ⟨#[102, 97, 108, 115, 101]⟩ 1 0 (by unfold I64; omega) (by unfold I64; omega) (by decide) (by decide) (by exact K2.out.1)).mono ?_
    rintro e w3 ⟨t, v, st3, rfl, ⟨kk, nn, rfl, rfl, hkk, hnn⟩, hst3, hr3, hg3⟩
    have HSTF : Hid (st.bind (valS (f + 1)) = st3.map (fun l => (leafV kk nn [], l))) := by show _ = _; rw [N.out, E.out]; exact hst3
    have HBX : BoxIs w3 w.heap.size (.int .i64 0) (.int .i64 0) (.string ⟨#[]⟩) (.slice none 0 0) (.slice none 0 0) := K2.out.2.2.1.grown hg3 (by simp; omega)
    have HVV : VIs w3 (fun k => w.heap.size + 1 ≤ k) (f + 1) (leafV kk nn []) (leaf kk nn []) := leaf_is _ _ f _ _ _ hkk hnn (by simp)
    have HGG := gb_trans K2.out.2.1 hg3
    have HRR := hr3
    have HST2 := HSTF.out
    clear hst3 hr3 hg3
    unfold leaf str
    have FIN := hidI (val_fin (f := f) (a7 := none) (a8 := none) (c7 := 0) (c8 := 0) hbl HVV HST2 HRR HGG HBX)
    obtain ⟨x0, x1, x2, x3, x4, y0, y1, y2, y3, y4⟩ := HBX.c
    obtain ⟨z0, z1, z2, z3, z4, -⟩ := (HBX.set (.int .i64 kk) (.int .i64 nn) (.string ⟨#[]⟩) (.slice none 0 0) (.slice none 0 0)).c
    clear HVV HST2 HRR HGG HBX
    have Z : Hid (_ ∧ _ ∧ _ ∧ _ ∧ _) := ⟨z0, z1, z2, z3, z4⟩
    clear z0 z1 z2 z3 z4
    go_wp2_with fail
    obtain ⟨z0, z1, z2, z3, z4⟩ := Z.out
    refine bodyPost_ret (v := leaf kk nn []) ?_ rfl ?_
    · simp only [set5] at z0 z1 z2 z3 z4
      simp [results, Tryz.results29, go_sem, z0, z1, z2, z3, z4, leaf, leafV, str]
    · exact ⟨leafV kk nn [], st3, none, none, 0, 0, rfl, FIN.out.2.1, HSTF.out, FIN.out.2.2.1, FIN.out.2.2.2⟩
  have n102 := hd_ne (m := 102) rfl q102
  by_cases q116 : hd0 (st1.getD []) = 116
  · have d := hd_eq (m := 116) rfl q116
    have E : Hid (st1.bind (oneS (valS f)) = (st1.bind (wordS [116, 114, 117, 101])).map fun r => (leafV 1 1 [], r)) := by
      cases st1 with
      | none => rfl
      | some l =>
        have q : hd0 l = 116 := q116
        show oneS (valS f) l = _
        simp only [oneS, q]
        rfl
    go_wp2_with fail
    refine (word_st _ b s st1 ⟨#[116, 114, 117, 101]⟩ 1 1 (by unfold I64; omega) (by unfold I64; omega) (by decide) (by decide) (by exact K2.out.1)).mono ?_
    rintro e w3 ⟨t, v, st3, rfl, ⟨kk, nn, rfl, rfl, hkk, hnn⟩, hst3, hr3, hg3⟩
    have HSTF : Hid (st.bind (valS (f + 1)) = st3.map (fun l => (leafV kk nn [], l))) := by show _ = _; rw [N.out, E.out]; exact hst3
    have HBX : BoxIs w3 w.heap.size (.int .i64 0) (.int .i64 0) (.string ⟨#[]⟩) (.slice none 0 0) (.slice none 0 0) := K2.out.2.2.1.grown hg3 (by simp; omega)
    have HVV : VIs w3 (fun k => w.heap.size + 1 ≤ k) (f + 1) (leafV kk nn []) (leaf kk nn []) := leaf_is _ _ f _ _ _ hkk hnn (by simp)
    have HGG := gb_trans K2.out.2.1 hg3
    have HRR := hr3
    have HST2 := HSTF.out
    clear hst3 hr3 hg3
    unfold leaf str
    have FIN := hidI (val_fin (f := f) (a7 := none) (a8 := none) (c7 := 0) (c8 := 0) hbl HVV HST2 HRR HGG HBX)
    obtain ⟨x0, x1, x2, x3, x4, y0, y1, y2, y3, y4⟩ := HBX.c
    obtain ⟨z0, z1, z2, z3, z4, -⟩ := (HBX.set (.int .i64 kk) (.int .i64 nn) (.string ⟨#[]⟩) (.slice none 0 0) (.slice none 0 0)).c
    clear HVV HST2 HRR HGG HBX
    have Z : Hid (_ ∧ _ ∧ _ ∧ _ ∧ _) := ⟨z0, z1, z2, z3, z4⟩
    clear z0 z1 z2 z3 z4
    go_wp2_with fail
    obtain ⟨z0, z1, z2, z3, z4⟩ := Z.out
    refine bodyPost_ret (v := leaf kk nn []) ?_ rfl ?_
    · simp only [set5] at z0 z1 z2 z3 z4
      simp [results, Tryz.results29, go_sem, z0, z1, z2, z3, z4, leaf, leafV, str]
    · exact ⟨leafV kk nn [], st3, none, none, 0, 0, rfl, FIN.out.2.1, HSTF.out, FIN.out.2.2.1, FIN.out.2.2.2⟩
  have n116 := hd_ne (m := 116) rfl q116
  by_cases q34 : hd0 (st1.getD []) = 34
  · have d := hd_eq (m := 34) rfl q34
    have E : Hid (st1.bind (oneS (valS f)) = (st1.bind quotS).map fun p => (leafV 3 0 p.1, p.2)) := by
      cases st1 with
      | none => rfl
      | some l =>
        show oneS (valS f) l = _
        simp only [oneS, if_neg (show ¬ hd0 l = 110 from q110), if_neg (show ¬ hd0 l = 102 from q102), if_neg (show ¬ hd0 l = 116 from q116), if_pos (show hd0 l = 34 from q34)]
        rfl
    go_wp2_with fail
    refine (quoted_st _ b s st1 (by exact K2.out.1)).mono ?_
    rintro e w3 ⟨t, st3, rfl, hst3, hkl, hr3, hg3⟩
    have HSTF : Hid (st.bind (valS (f + 1)) = st3.map (fun l => (leafV 3 0 t, l))) := by
      show _ = _
      rw [N.out, E.out, hst3]; cases st3 <;> rfl
    have HBX : BoxIs w3 w.heap.size (.int .i64 0) (.int .i64 0) (.string ⟨#[]⟩) (.slice none 0 0) (.slice none 0 0) := K2.out.2.2.1.grown hg3 (by simp; omega)
    have HVV : VIs w3 (fun k => w.heap.size + 1 ≤ k) (f + 1) (leafV 3 0 t) (leaf 3 0 t) := leaf_is _ _ f _ _ _ (by unfold I64; omega) (by unfold I64; omega) (by unfold maxLen; omega)
    have HGG := gb_trans K2.out.2.1 hg3
    have HRR := hr3
    have HST2 := HSTF.out
    clear hst3 hr3 hg3
    have FIN := hidI (val_fin (f := f) (a7 := none) (a8 := none) (c7 := 0) (c8 := 0) hbl HVV HST2 HRR HGG HBX)
    obtain ⟨x0, x1, x2, x3, x4, y0, y1, y2, y3, y4⟩ := HBX.c
    obtain ⟨z0, z1, z2, z3, z4, -⟩ := (HBX.set (.int .i64 3) (.int .i64 0) (.string ⟨t.toArray⟩) (.slice none 0 0) (.slice none 0 0)).c
    clear HVV HST2 HRR HGG HBX
    have Z : Hid (_ ∧ _ ∧ _ ∧ _ ∧ _) := ⟨z0, z1, z2, z3, z4⟩
    clear z0 z1 z2 z3 z4
    go_wp2_with fail
    obtain ⟨z0, z1, z2, z3, z4⟩ := Z.out
    refine bodyPost_ret (v := leaf 3 0 t) ?_ rfl ?_
    · simp only [set5] at z0 z1 z2 z3 z4
      simp [results, Tryz.results29, go_sem, z0, z1, z2, z3, z4, leaf, str]
    · exact ⟨leafV 3 0 t, st3, none, none, 0, 0, rfl, FIN.out.2.1, HSTF.out, FIN.out.2.2.1, FIN.out.2.2.2⟩
  have n34 := hd_ne (m := 34) rfl q34
  by_cases q91 : hd0 (st1.getD []) = 91
  · have d := hd_eq (m := 91) rfl q91
    have E : Hid (st1.bind (oneS (valS f)) = st1.bind (listS (valS f))) := by
      cases st1 with
      | none => rfl
      | some l =>
        show oneS (valS f) l = _
        simp only [oneS, if_neg (show ¬ hd0 l = 110 from q110), if_neg (show ¬ hd0 l = 102 from q102), if_neg (show ¬ hd0 l = 116 from q116), if_neg (show ¬ hd0 l = 34 from q34), if_pos (show hd0 l = 91 from q91)]
        rfl
    have hf0 : 0 < f := by
      have := hlen2.out
      cases hs : st1.getD [] with
      | nil => rw [hs] at q91; simp [hd0] at q91
      | cons c r => rw [hs] at this; simp only [List.length_cons] at this; omega
    go_wp2_with fail
    refine (list_st f IH.out _ b s st1 (by exact K2.out.1) (by exact K2.out.2.2.2) hb4 hf0 hlen2.out).mono ?_
    rintro e w3 ⟨t, st3, a7, a8, c7, c8, rfl, hv3, hst3, hr3, hg3⟩
    have HSTF : Hid (st.bind (valS (f + 1)) = st3.map (fun l => (t, l))) := by
      show _ = _
      rw [N.out, E.out, hst3]
    have HBX : BoxIs w3 w.heap.size (.int .i64 0) (.int .i64 0) (.string ⟨#[]⟩) (.slice none 0 0) (.slice none 0 0) := K2.out.2.2.1.grown hg3 (by simp; omega)
    have HVV : VIs w3 (fun k => w.heap.size + 1 ≤ k) (f + 1) t (.agg #[.int .i64 t.kind, .int .i64 t.n, .string ⟨t.s.toArray⟩, .slice a7 t.keys.length c7, .slice a8 t.l.length c8]) := hv3.weak (fun k hk => by omega)
    have HGG := gb_trans K2.out.2.1 hg3
    have HRR := hr3
    have HST2 := HSTF.out
    clear hst3 hr3 hg3 hv3
    have FIN := hidI (val_fin (f := f) hbl HVV HST2 HRR HGG HBX)
    obtain ⟨x0, x1, x2, x3, x4, y0, y1, y2, y3, y4⟩ := HBX.c
    obtain ⟨z0, z1, z2, z3, z4, -⟩ := FIN.out.1.c
    clear HVV HST2 HRR HGG HBX
    have Z : Hid (_ ∧ _ ∧ _ ∧ _ ∧ _) := ⟨z0, z1, z2, z3, z4⟩
    clear z0 z1 z2 z3 z4
    go_wp2_with fail
    obtain ⟨z0, z1, z2, z3, z4⟩ := Z.out
    refine bodyPost_ret (v := (.agg #[.int .i64 t.kind, .int .i64 t.n, .string ⟨t.s.toArray⟩, .slice a7 t.keys.length c7, .slice a8 t.l.length c8])) ?_ rfl ?_
    · simp only [set5] at z0 z1 z2 z3 z4
      simp [results, Tryz.results29, go_sem, z0, z1, z2, z3, z4]
    · exact ⟨t, st3, a7, a8, c7, c8, rfl, FIN.out.2.1, HSTF.out, FIN.out.2.2.1, FIN.out.2.2.2⟩
  have n91 := hd_ne (m := 91) rfl q91
  by_cases q123 : hd0 (st1.getD []) = 123
  · have d := hd_eq (m := 123) rfl q123
    have E : Hid (st1.bind (oneS (valS f)) = st1.bind (objS (valS f))) := by
      cases st1 with
      | none => rfl
      | some l =>
        show oneS (valS f) l = _
        simp only [oneS, if_neg (show ¬ hd0 l = 110 from q110), if_neg (show ¬ hd0 l = 102 from q102), if_neg (show ¬ hd0 l = 116 from q116), if_neg (show ¬ hd0 l = 34 from q34), if_neg (show ¬ hd0 l = 91 from q91), if_pos (show hd0 l = 123 from q123)]
        rfl
    have hf0 : 0 < f := by
      have := hlen2.out
      cases hs : st1.getD [] with
      | nil => rw [hs] at q123; simp [hd0] at q123
      | cons c r => rw [hs] at this; simp only [List.length_cons] at this; omega
    go_wp2_with fail
    refine (object_st HW.out f IH.out _ b s st1 (by exact K2.out.1) (by exact K2.out.2.2.2) hb4 hf0 hlen2.out).mono ?_
    rintro e w3 ⟨t, st3, a7, a8, c7, c8, rfl, hv3, hst3, hr3, hg3⟩
    have HSTF : Hid (st.bind (valS (f + 1)) = st3.map (fun l => (t, l))) := by
      show _ = _
      rw [N.out, E.out, hst3]
    have HBX : BoxIs w3 w.heap.size (.int .i64 0) (.int .i64 0) (.string ⟨#[]⟩) (.slice none 0 0) (.slice none 0 0) := K2.out.2.2.1.grown hg3 (by simp; omega)
    have HVV : VIs w3 (fun k => w.heap.size + 1 ≤ k) (f + 1) t (.agg #[.int .i64 t.kind, .int .i64 t.n, .string ⟨t.s.toArray⟩, .slice a7 t.keys.length c7, .slice a8 t.l.length c8]) := hv3.weak (fun k hk => by omega)
    have HGG := gb_trans K2.out.2.1 hg3
    have HRR := hr3
    have HST2 := HSTF.out
    clear hst3 hr3 hg3 hv3
    have FIN := hidI (val_fin (f := f) hbl HVV HST2 HRR HGG HBX)
    obtain ⟨x0, x1, x2, x3, x4, y0, y1, y2, y3, y4⟩ := HBX.c
    obtain ⟨z0, z1, z2, z3, z4, -⟩ := FIN.out.1.c
    clear HVV HST2 HRR HGG HBX
    have Z : Hid (_ ∧ _ ∧ _ ∧ _ ∧ _) := ⟨z0, z1, z2, z3, z4⟩
    clear z0 z1 z2 z3 z4
    go_wp2_with fail
    obtain ⟨z0, z1, z2, z3, z4⟩ := Z.out
    refine bodyPost_ret (v := (.agg #[.int .i64 t.kind, .int .i64 t.n, .string ⟨t.s.toArray⟩, .slice a7 t.keys.length c7, .slice a8 t.l.length c8])) ?_ rfl ?_
    · simp only [set5] at z0 z1 z2 z3 z4
      simp [results, Tryz.results29, go_sem, z0, z1, z2, z3, z4]
    · exact ⟨t, st3, a7, a8, c7, c8, rfl, FIN.out.2.1, HSTF.out, FIN.out.2.2.1, FIN.out.2.2.2⟩
  have n123 := hd_ne (m := 123) rfl q123
  have E : Hid (st1.bind (oneS (valS f)) = (st1.bind numS).map fun p => (leafV 2 p.1 [], p.2)) := by
    cases st1 with
    | none => rfl
    | some l =>
      show oneS (valS f) l = _
      simp only [oneS, if_neg (show ¬ hd0 l = 110 from q110), if_neg (show ¬ hd0 l = 102 from q102), if_neg (show ¬ hd0 l = 116 from q116), if_neg (show ¬ hd0 l = 34 from q34), if_neg (show ¬ hd0 l = 91 from q91), if_neg (show ¬ hd0 l = 123 from q123)]
      rfl
  go_wp2_with fail
  refine (number_st _ b s st1 (by exact K2.out.1) (by exact K2.out.2.2.2) hb4).mono ?_
  rintro e w3 ⟨t, v, st3, rfl, ⟨kk, nn, rfl, rfl, hkk, hnn⟩, hst3, hr3, hg3⟩
  have HSTF : Hid (st.bind (valS (f + 1)) = st3.map (fun l => (leafV kk nn [], l))) := by show _ = _; rw [N.out, E.out]; exact hst3
  have HBX : BoxIs w3 w.heap.size (.int .i64 0) (.int .i64 0) (.string ⟨#[]⟩) (.slice none 0 0) (.slice none 0 0) := K2.out.2.2.1.grown hg3 (by simp; omega)
  have HVV : VIs w3 (fun k => w.heap.size + 1 ≤ k) (f + 1) (leafV kk nn []) (leaf kk nn []) := leaf_is _ _ f _ _ _ hkk hnn (by simp)
  have HGG := gb_trans K2.out.2.1 hg3
  have HRR := hr3
  have HST2 := HSTF.out
  clear hst3 hr3 hg3
  unfold leaf str
  have FIN := hidI (val_fin (f := f) (a7 := none) (a8 := none) (c7 := 0) (c8 := 0) hbl HVV HST2 HRR HGG HBX)
  obtain ⟨x0, x1, x2, x3, x4, y0, y1, y2, y3, y4⟩ := HBX.c
  obtain ⟨z0, z1, z2, z3, z4, -⟩ := (HBX.set (.int .i64 kk) (.int .i64 nn) (.string ⟨#[]⟩) (.slice none 0 0) (.slice none 0 0)).c
  clear HVV HST2 HRR HGG HBX
  have Z : Hid (_ ∧ _ ∧ _ ∧ _ ∧ _) := ⟨z0, z1, z2, z3, z4⟩
  clear z0 z1 z2 z3 z4
  go_wp2_with fail
  obtain ⟨z0, z1, z2, z3, z4⟩ := Z.out
  refine bodyPost_ret (v := leaf kk nn []) ?_ rfl ?_
  · simp only [set5] at z0 z1 z2 z3 z4
    simp [results, Tryz.results29, go_sem, z0, z1, z2, z3, z4, leaf, str]
  · exact ⟨leafV kk nn [], st3, none, none, 0, 0, rfl, FIN.out.2.1, HSTF.out, FIN.out.2.2.1, FIN.out.2.2.2⟩

theorem value_all (hW : WithC) (f : Nat) : ValC f := by
  induction f with
  | zero => intro w b s st h hG hb4 hlen; omega
  | succ f ih => exact value_succ hW f ih
end Go.Proofs.YtkboplcffailoaaGreatDoor

set_option linter.unusedSimpArgs false
set_option linter.unusedVariables false
namespace Go.Proofs.YtkboplcffailoaaGreatDoor
open Go.RowKit

theorem value_st (f : Nat) : ValC f := value_all with_all f
def parseV (l : List UInt8) : Option V := (valS (l.length + 1) l).bind fun p => if p.2.dropWhile isSp = [] ∧ goodV p.1 = true then some p.1 else none
def parseS (l : List UInt8) : V × Int := if 2000 < l.length then (leafV 0 0 [], 2) else match parseV l with | some t => (t, 0) | none => (leafV 0 0 [], 1)

set_option maxRecDepth 100000 in
set_option maxHeartbeats 4000000 in
theorem parse_at (w : World) (l : List UInt8) (hl : l.length ≤ maxLen) (hG : Glob w) :
    Calls Tryz.prog 18 #[str l] w fun e w' => ∃ (t : V) (ee : Int) (a7 a8 : Option Addr) (c7 c8 : Nat), e = .returned (.tuple #[(.agg #[.int .i64 t.kind, .int .i64 t.n, .string ⟨t.s.toArray⟩, .slice a7 t.keys.length c7, .slice a8 t.l.length c8]), .int .i64 ee]) ∧ parseS l = (t, ee) ∧ VIs w' (fun k => w.heap.size ≤ k) 2003 t (.agg #[.int .i64 t.kind, .int .i64 t.n, .string ⟨t.s.toArray⟩, .slice a7 t.keys.length c7, .slice a8 t.l.length c8]) ∧ Below w.heap.size w w' := by
  unfold maxLen at hl
  unfold str
  have HG := hidI hG
  clear hG
  by_cases h2 : 2000 < l.length
  · have e0 : 2000 < (l.length : Int) := by omega
    have PS : Hid (parseS l = (leafV 0 0 [], 2)) := hidI (by simp [parseS, h2])
    go_enter Tryz.func18, Tryz.ntmps18
    go_wp2_with fail
    refine bodyPost_ret (v := .tuple #[leaf 0 0 [], .int .i64 2]) (by simp [results, Tryz.results18, go_sem, leaf, str]) rfl ?_
    exact ⟨leafV 0 0 [], 2, none, none, 0, 0, rfl, PS.out, leaf_is _ _ 2002 _ _ _ (by unfold I64; omega) (by unfold I64; omega) (by simp), bel_alloc _ _⟩
  · have e0 : ¬ (2000 < (l.length : Int)) := by omega
    have PS0 : Hid (parseS l = match parseV l with | some t => (t, 0) | none => (leafV 0 0 [], 1)) := hidI (by simp only [parseS, if_neg h2])
    go_enter Tryz.func18, Tryz.ntmps18
    go_wp2_with fail
    have hrd : Hid (RdSt ((w.alloc zcells).alloc (.cells #[.string ⟨l.toArray⟩, .int .i64 0, .bool false] 53)) (w.heap.size + 1) ⟨l.toArray⟩ (some l)) := ⟨0, ⟨h2b w _ _, Nat.zero_le _, by simp [ByteArray.size]; omega⟩, by simp⟩
    have hG2 : Hid (Glob ((w.alloc zcells).alloc (.cells #[.string ⟨l.toArray⟩, .int .i64 0, .bool false] 53))) := HG.out.grown (gb_alloc (gb_alloc (gb_refl w none) _) _) (by simp)
    have hsz : 4 ≤ w.heap.size + 1 := by have := HG.out.size; omega
    refine (value_st (l.length + 1) _ (w.heap.size + 1) ⟨l.toArray⟩ (some l) (by exact hrd.out) (by exact hG2.out) hsz (by simp)).mono ?_
    rintro e w3 ⟨t, st3, a7, a8, c7, c8, rfl, hv3, hst3, hr3, hg3⟩
    have K3 : Hid (VIs w3 (fun k => w.heap.size + 2 ≤ k) (l.length + 1) t (.agg #[.int .i64 t.kind, .int .i64 t.n, .string ⟨t.s.toArray⟩, .slice a7 t.keys.length c7, .slice a8 t.l.length c8]) ∧ (some l).bind (valS (l.length + 1)) = st3.map (fun l => (t, l)) ∧ RdSt w3 (w.heap.size + 1) ⟨l.toArray⟩ st3 ∧ BoxIs w3 w.heap.size (.int .i64 0) (.int .i64 0) (.string ⟨#[]⟩) (.slice none 0 0) (.slice none 0 0) ∧ w.grownBy w3 none) :=
      ⟨by simpa using hv3, hst3, hr3, BoxIs.grown (h2a w _ _) hg3 (by simp), gb_out (gb_alloc (gb_alloc (gb_refl w none) _) _) hg3 (by omega)⟩
    have hsz3 : w.heap.size + 1 < w3.heap.size := hr3.lt
    clear hv3 hst3 hr3 hg3
    go_wp2_with fail
    refine (spaces_st _ (w.heap.size + 1) ⟨l.toArray⟩ st3 (by exact K3.out.2.2.1.grown (World.grownBy_alloc w3 _ none) (by simp))).mono ?_
    rintro e w4 ⟨rfl, hr4, hg4⟩
    have K4 : Hid (RdSt w4 (w.heap.size + 1) ⟨l.toArray⟩ (st3.map (List.dropWhile isSp)) ∧ BoxIs w4 w.heap.size (.int .i64 0) (.int .i64 0) (.string ⟨#[]⟩) (.slice none 0 0) (.slice none 0 0) ∧ BoxIs w4 w3.heap.size (.int .i64 t.kind) (.int .i64 t.n) (.string ⟨t.s.toArray⟩) (.slice a7 t.keys.length c7) (.slice a8 t.l.length c8) ∧ VIs w4 (fun k => w.heap.size + 2 ≤ k) (l.length + 1) t (.agg #[.int .i64 t.kind, .int .i64 t.n, .string ⟨t.s.toArray⟩, .slice a7 t.keys.length c7, .slice a8 t.l.length c8]) ∧ w.grownBy w4 none) :=
      ⟨hr4, (K3.out.2.2.2.1.grown (World.grownBy_alloc w3 _ none) (by simp)).grown hg4 (by simp), BoxIs.grown (heap_alloc_new w3 _) hg4 (by simp; omega), (K3.out.1.grown (World.grownBy_alloc w3 _ none) (by simp)).grown hg4 (fun k hk e => by simp at e; omega), gb_out (gb_alloc K3.out.2.2.2.2 _) hg4 (by omega)⟩
    clear hr4 hg4
    have hval : valS (l.length + 1) l = st3.map (fun l => (t, l)) := K3.out.2.1
    match st3, K3, K4, hval with
    | none, K3, K4, hval =>
      have PS : Hid (parseS l = (leafV 0 0 [], 1)) := hidI (by
        have : parseV l = none := by unfold parseV; rw [hval]; rfl
        rw [PS0.out, this])
      obtain ⟨-, -, c2, -, -⟩ := (RdAt.nil K4.out.1).c
      have EN : Hid (BoxIs w4 w.heap.size (.int .i64 0) (.int .i64 0) (.string ⟨#[]⟩) (.slice none 0 0) (.slice none 0 0) ∧ w.grownBy w4 none) := ⟨K4.out.2.1, K4.out.2.2.2.2⟩
      clear hval
      obtain ⟨x0, x1, x2, x3, x4, y0, y1, y2, y3, y4⟩ := EN.out.1.c
      obtain ⟨z0, z1, z2, z3, z4, -⟩ := (EN.out.1.set (.int .i64 0) (.int .i64 0) (.string ⟨#[]⟩) (.slice none 0 0) (.slice none 0 0)).c
      have Z : Hid (_ ∧ _ ∧ _ ∧ _ ∧ _) := ⟨z0, z1, z2, z3, z4⟩
      clear z0 z1 z2 z3 z4
      go_wp2_with fail
      obtain ⟨z0, z1, z2, z3, z4⟩ := Z.out
      refine bodyPost_ret (v := .tuple #[leaf 0 0 [], .int .i64 1]) ?_ rfl ?_
      · simp only [set5] at z0 z1 z2 z3 z4
        simp [results, Tryz.results18, go_sem, z0, z1, z2, z3, z4, leaf, str]
      · exact ⟨leafV 0 0 [], 1, none, none, 0, 0, rfl, PS.out, leaf_is _ _ 2002 _ _ _ (by unfold I64; omega) (by unfold I64; omega) (by simp), gb_none (gb_set5 EN.out.2 (Nat.le_refl _) _ _ _ _ _)⟩
    | some r, K3, K4, hval =>
      obtain ⟨i, hi, ei⟩ := K4.out.1
      obtain ⟨c0, c1, c2, -, -⟩ := hi.c
      have hile := hi.2.1
      have hel : (ByteArray.mk l.toArray).size = l.length := by simp [ByteArray.size]
      rw [hel] at hile
      have EI := hidI ei
      clear hi ei
      cases hd : r.dropWhile isSp with
      | cons x r2 =>
        have hlt : (i : Int) < (l.length : Int) := by
          have h9 := EI.out
          rw [show (some r).map (List.dropWhile isSp) = some (r.dropWhile isSp) from rfl, hd] at h9
          have := congrArg List.length h9
          simp at this
          omega
        have PS : Hid (parseS l = (leafV 0 0 [], 1)) := hidI (by
          have : parseV l = none := by unfold parseV; rw [hval]; simp [hd]
          rw [PS0.out, this])
        have EN : Hid (BoxIs w4 w.heap.size (.int .i64 0) (.int .i64 0) (.string ⟨#[]⟩) (.slice none 0 0) (.slice none 0 0) ∧ w.grownBy w4 none) := ⟨K4.out.2.1, K4.out.2.2.2.2⟩
        clear hval hd
        obtain ⟨x0, x1, x2, x3, x4, y0, y1, y2, y3, y4⟩ := EN.out.1.c
        obtain ⟨z0, z1, z2, z3, z4, -⟩ := (EN.out.1.set (.int .i64 0) (.int .i64 0) (.string ⟨#[]⟩) (.slice none 0 0) (.slice none 0 0)).c
        have Z : Hid (_ ∧ _ ∧ _ ∧ _ ∧ _) := ⟨z0, z1, z2, z3, z4⟩
        clear z0 z1 z2 z3 z4
        go_wp2_with fail
        obtain ⟨z0, z1, z2, z3, z4⟩ := Z.out
        refine bodyPost_ret (v := .tuple #[leaf 0 0 [], .int .i64 1]) ?_ rfl ?_
        · simp only [set5] at z0 z1 z2 z3 z4
          simp [results, Tryz.results18, go_sem, z0, z1, z2, z3, z4, leaf, str]
        · exact ⟨leafV 0 0 [], 1, none, none, 0, 0, rfl, PS.out, leaf_is _ _ 2002 _ _ _ (by unfold I64; omega) (by unfold I64; omega) (by simp), gb_none (gb_set5 EN.out.2 (Nat.le_refl _) _ _ _ _ _)⟩
      | nil =>
        have hge : ¬ ((i : Int) < (l.length : Int)) := by
          have h9 := EI.out
          rw [show (some r).map (List.dropWhile isSp) = some (r.dropWhile isSp) from rfl, hd] at h9
          have := congrArg List.length h9
          simp at this
          omega
        obtain ⟨p0, p1, p2, p3, p4, -⟩ := K4.out.2.2.1.c
        cases hgd : goodV t with
        | true =>
          have PS : Hid (parseS l = (t, 0)) := hidI (by
            have : parseV l = some t := by unfold parseV; rw [hval]; simp [hd, hgd]
            rw [PS0.out, this])
          have HGD := hidI hgd
          clear hval hd hgd
          go_wp2_with fail
          refine (Good_at _ _ _ t _ (by exact K4.out.2.2.2.1)).mono ?_
          rintro e w5 ⟨rfl, hb5⟩
          rw [HGD.out]
          have K5 : Hid (BoxIs w5 w.heap.size (.int .i64 0) (.int .i64 0) (.string ⟨#[]⟩) (.slice none 0 0) (.slice none 0 0) ∧ BoxIs w5 w3.heap.size (.int .i64 t.kind) (.int .i64 t.n) (.string ⟨t.s.toArray⟩) (.slice a7 t.keys.length c7) (.slice a8 t.l.length c8) ∧ VIs w5 (fun k => w.heap.size + 2 ≤ k) (l.length + 1) t (.agg #[.int .i64 t.kind, .int .i64 t.n, .string ⟨t.s.toArray⟩, .slice a7 t.keys.length c7, .slice a8 t.l.length c8]) ∧ w.grownBy w5 none) := ⟨box_bel hb5 K4.out.2.1, box_bel hb5 K4.out.2.2.1, K4.out.2.2.2.1.bel hb5, gb_trans K4.out.2.2.2.2 (gb_below hb5)⟩
          clear hb5 p0 p1 p2 p3 p4 c0 c1 c2
          obtain ⟨p0, p1, p2, p3, p4, -⟩ := K5.out.2.1.c
          obtain ⟨x0, x1, x2, x3, x4, y0, y1, y2, y3, y4⟩ := K5.out.1.c
          obtain ⟨z0, z1, z2, z3, z4, -⟩ := (K5.out.1.set (.int .i64 t.kind) (.int .i64 t.n) (.string ⟨t.s.toArray⟩) (.slice a7 t.keys.length c7) (.slice a8 t.l.length c8)).c
          have Z : Hid (_ ∧ _ ∧ _ ∧ _ ∧ _) := ⟨z0, z1, z2, z3, z4⟩
          clear z0 z1 z2 z3 z4
          go_wp2_with fail
          obtain ⟨z0, z1, z2, z3, z4⟩ := Z.out
          refine bodyPost_ret (v := .tuple #[(.agg #[.int .i64 t.kind, .int .i64 t.n, .string ⟨t.s.toArray⟩, .slice a7 t.keys.length c7, .slice a8 t.l.length c8]), .int .i64 0]) ?_ rfl ?_
          · simp only [set5] at z0 z1 z2 z3 z4
            simp [results, Tryz.results18, go_sem, z0, z1, z2, z3, z4]
          · refine ⟨t, 0, a7, a8, c7, c8, rfl, PS.out, ?_, gb_none (gb_set5 K5.out.2.2.2 (Nat.le_refl _) _ _ _ _ _)⟩
            exact ((K5.out.2.2.1.grown (set5_gb w5 w.heap.size (.int .i64 t.kind) (.int .i64 t.n) (.string ⟨t.s.toArray⟩) (.slice a7 t.keys.length c7) (.slice a8 t.l.length c8)) (fun k hk e => by simp at e; omega)).weak (fun k hk => by omega)).le (by omega)
        | false =>
          have PS : Hid (parseS l = (leafV 0 0 [], 1)) := hidI (by
            have : parseV l = none := by unfold parseV; rw [hval]; simp [hgd]
            rw [PS0.out, this])
          have HGD := hidI hgd
          clear hval hd hgd
          go_wp2_with fail
          refine (Good_at _ _ _ t _ (by exact K4.out.2.2.2.1)).mono ?_
          rintro e w5 ⟨rfl, hb5⟩
          rw [HGD.out]
          have EN : Hid (BoxIs w5 w.heap.size (.int .i64 0) (.int .i64 0) (.string ⟨#[]⟩) (.slice none 0 0) (.slice none 0 0) ∧ w.grownBy w5 none) := ⟨box_bel hb5 K4.out.2.1, gb_trans K4.out.2.2.2.2 (gb_below hb5)⟩
          clear hb5 p0 p1 p2 p3 p4 c0 c1 c2
          obtain ⟨x0, x1, x2, x3, x4, y0, y1, y2, y3, y4⟩ := EN.out.1.c
          obtain ⟨z0, z1, z2, z3, z4, -⟩ := (EN.out.1.set (.int .i64 0) (.int .i64 0) (.string ⟨#[]⟩) (.slice none 0 0) (.slice none 0 0)).c
          have Z : Hid (_ ∧ _ ∧ _ ∧ _ ∧ _) := ⟨z0, z1, z2, z3, z4⟩
          clear z0 z1 z2 z3 z4
          go_wp2_with fail
          obtain ⟨z0, z1, z2, z3, z4⟩ := Z.out
          refine bodyPost_ret (v := .tuple #[leaf 0 0 [], .int .i64 1]) ?_ rfl ?_
          · simp only [set5] at z0 z1 z2 z3 z4
            simp [results, Tryz.results18, go_sem, z0, z1, z2, z3, z4, leaf, str]
          · exact ⟨leafV 0 0 [], 1, none, none, 0, 0, rfl, PS.out, leaf_is _ _ 2002 _ _ _ (by unfold I64; omega) (by unfold I64; omega) (by simp), gb_none (gb_set5 EN.out.2 (Nat.le_refl _) _ _ _ _ _)⟩
end Go.Proofs.YtkboplcffailoaaGreatDoor
