/- What the small methods of json's reader do: fail, ahead, next, spaces, mark, need. -/
import Derived.Test.YtmdemcjmcnfjmaaGreatDoorAa
import Derived.Test.YtmdemcjmcnfjmaaGreatDoorSa
import Derived.WalkKit
import Derived.WalkSpells
import Derived.WalkLawsBesides
import Derived.Deep.QuietTactic
import Derived.BigQuiet
import Derived.Deep.LoopGhost
set_option linter.unusedSimpArgs false
set_option linter.unusedVariables false
namespace Go.Proofs.YtmdemcjmcnfjmaaGreatDoor
open Go.RowKit

/- Block b is a reader of the text s, at the place i, with the mark bad. -/
def RdIs (w : World) (b : Nat) (s : ByteArray) (i : Nat) (bad : Bool) : Prop :=
  w.heap[b]? = some (.cells #[.string s, .int .i64 i, .bool bad] 97) ∧ i ≤ s.size ∧ s.size ≤ 2000

theorem RdIs.c {w : World} {b : Nat} {s : ByteArray} {i : Nat} {bad : Bool} (h : RdIs w b s i bad) :
    w.cell? ⟨b, 0, none⟩ = some (.string s) ∧ w.cell? ⟨b, 1, none⟩ = some (.int .i64 i) ∧ w.cell? ⟨b, 2, none⟩ = some (.bool bad) ∧ w.frozen? ⟨b, 1, none⟩ = false ∧ w.frozen? ⟨b, 2, none⟩ = false := by
  obtain ⟨h, _, _⟩ := h
  refine ⟨?_, ?_, ?_, ?_, ?_⟩ <;> simp [World.cell?, World.frozen?, h]

/- The same, and what is still to be read is l. -/
def RdAt (w : World) (b : Nat) (s : ByteArray) (l : List UInt8) (bad : Bool) : Prop := ∃ i, RdIs w b s i bad ∧ s.data.toList.drop i = l

theorem RdAt.of_heap {w w' : World} {b : Nat} {s : ByteArray} {l : List UInt8} {bad : Bool} (h : RdAt w b s l bad) (e : w'.heap[b]? = w.heap[b]?) : RdAt w' b s l bad := by
  obtain ⟨i, h, e2⟩ := h
  exact ⟨i, ⟨e.trans h.1, h.2⟩, e2⟩
theorem RdAt.lt {w : World} {b : Nat} {s : ByteArray} {l : List UInt8} {bad : Bool} (h : RdAt w b s l bad) : b < w.heap.size := by
  obtain ⟨i, h, e2⟩ := h
  exact (Array.getElem?_eq_some_iff.1 h.1).1
theorem RdAt.len {w : World} {b : Nat} {s : ByteArray} {l : List UInt8} {bad : Bool} (h : RdAt w b s l bad) : l.length ≤ s.size ∧ s.size ≤ 2000 := by
  obtain ⟨i, h, e2⟩ := h
  have e : s.data.toList.length = s.size := by simp only [Array.length_toList]; rfl
  have := congrArg List.length e2
  rw [List.length_drop, e] at this
  exact ⟨by omega, h.2.2⟩

theorem RdAt.nil {w : World} {b : Nat} {s : ByteArray} {bad : Bool} (h : RdAt w b s [] bad) : RdIs w b s s.size bad := by
  obtain ⟨i, h, e⟩ := h
  have e1 : s.data.toList.length ≤ i := List.drop_eq_nil_iff.1 e
  have h2 := h.2.1
  have e2 : s.data.toList.length = s.size := by simp only [Array.length_toList]; rfl
  have e : i = s.size := by omega
  subst e; exact h
theorem RdAt.cons {w : World} {b : Nat} {s : ByteArray} {c : UInt8} {l : List UInt8} {bad : Bool} (h : RdAt w b s (c :: l) bad) :
    ∃ i, RdIs w b s i bad ∧ (∃ hi : i < s.size, s[i] = c) ∧ s.data.toList.drop (i + 1) = l := by
  obtain ⟨i, h, e⟩ := h
  have hi : i < s.data.toList.length := by
    rcases Nat.lt_or_ge i s.data.toList.length with h | h
    · exact h
    · rw [List.drop_eq_nil_of_le h] at e; cases e
  rw [List.drop_eq_getElem_cons hi] at e
  simp only [List.cons.injEq] at e
  exact ⟨i, h, ⟨by rw [Array.length_toList] at hi; exact hi, e.1⟩, e.2⟩

set_option maxHeartbeats 400000 in
theorem fail_any (w : World) (b : Nat) (s : ByteArray) (i : Nat) (bad : Bool) (h : RdIs w b s i bad) :
    Calls Tryz.prog 129 #[.pointer (some ⟨b, 0, none⟩)] w fun e w' => e = .returned (.tuple #[]) ∧ RdIs w' b s s.size true ∧ w.grownBy w' (some b) := by
  obtain ⟨c0, c1, c2, f1, f2⟩ := h.c
  have H := hidI h
  have h3 := h.2.2
  clear h
  go_enter Tryz.func129, Tryz.ntmps129
  go_wp2
  go_end0
  exact ⟨rfl, ⟨heap_set (heap_set H.out.1 2 _) 1 _, Nat.le_refl _, H.out.2.2⟩, gb_set (gb_set (gb_refl _ _) _ _) _ _⟩

theorem fail_at (w : World) (b : Nat) (s : ByteArray) (l : List UInt8) (bad : Bool) (h : RdAt w b s l bad) :
    Calls Tryz.prog 129 #[.pointer (some ⟨b, 0, none⟩)] w fun e w' => e = .returned (.tuple #[]) ∧ RdAt w' b s [] true ∧ w.grownBy w' (some b) := by
  obtain ⟨i, h, _⟩ := h
  refine (fail_any w b s i bad h).mono ?_
  rintro e w' ⟨he, hr, hg⟩
  exact ⟨he, ⟨s.size, hr, List.drop_eq_nil_of_le (by simp only [Array.length_toList]; exact Nat.le_refl _)⟩, hg⟩

set_option maxHeartbeats 400000 in
theorem ahead_nil (w : World) (b : Nat) (s : ByteArray) (bad : Bool) (h : RdAt w b s [] bad) :
    Calls Tryz.prog 92 #[.pointer (some ⟨b, 0, none⟩)] w fun e w' => e = .returned (.int .u8 0) ∧ ∃ n, w' = w.drewN n := by
  obtain ⟨c0, c1, c2, f1, f2⟩ := h.nil.c
  clear h
  go_enter Tryz.func92, Tryz.ntmps92
  go_wp2
  go_quiet (fail)
  go_wp2
  go_ret
  exact ⟨rfl, nq, rfl⟩
set_option maxHeartbeats 400000 in
theorem ahead_cons (w : World) (b : Nat) (s : ByteArray) (c : UInt8) (l : List UInt8) (bad : Bool) (h : RdAt w b s (c :: l) bad) :
    Calls Tryz.prog 92 #[.pointer (some ⟨b, 0, none⟩)] w fun e w' => e = .returned (.int .u8 c.toNat) ∧ ∃ n, w' = w.drewN n := by
  obtain ⟨i, h, ⟨hi, hc⟩, hl⟩ := h.cons
  obtain ⟨c0, c1, c2, f1, f2⟩ := h.c
  have h3 := h.2.2
  have Hc := hidI hc
  clear h hl hc
  have e1 : ((i : Int) == (s.size : Int)) = false := by rw [beq_eq_false_iff_ne]; omega
  go_enter Tryz.func92, Tryz.ntmps92
  go_wp2
  go_quiet (fail)
  go_wp2
  go_quiet (fail)
  go_wp2
  go_ret
  exact ⟨by rw [Hc.out]; rfl, _, drewN_drewN _ _ _⟩

/- The byte that comes, 0 at the end. -/
def hd0 (l : List UInt8) : UInt8 := l.headD 0

theorem ahead_at (w : World) (b : Nat) (s : ByteArray) (l : List UInt8) (bad : Bool) (h : RdAt w b s l bad) :
    Calls Tryz.prog 92 #[.pointer (some ⟨b, 0, none⟩)] w fun e w' => e = .returned (.int .u8 (hd0 l).toNat) ∧ ∃ n, w' = w.drewN n := by
  cases l with
  | nil => exact ahead_nil w b s bad h
  | cons c l => exact ahead_cons w b s c l bad h

set_option maxHeartbeats 400000 in
theorem next_nil (w : World) (b : Nat) (s : ByteArray) (bad : Bool) (h : RdAt w b s [] bad) :
    Calls Tryz.prog 131 #[.pointer (some ⟨b, 0, none⟩)] w fun e w' => e = .returned (.int .u8 0) ∧ RdAt w' b s [] true ∧ w.grownBy w' (some b) := by
  obtain ⟨c0, c1, c2, f1, f2⟩ := h.nil.c
  have H := hidI h
  clear h
  go_enter Tryz.func131, Tryz.ntmps131
  go_wp2
  go_quiet (fail)
  go_wp2_with fail
  refine (fail_at _ b s [] bad (by exact H.out.of_heap rfl)).mono ?_
  rintro e w' ⟨rfl, hr, hg⟩
  go_wp2
  go_ret
  exact ⟨rfl, hr, gb_trans (gb_drewN (gb_refl _ _) _) hg⟩
set_option maxHeartbeats 400000 in
theorem next_cons (w : World) (b : Nat) (s : ByteArray) (c : UInt8) (l : List UInt8) (bad : Bool) (h : RdAt w b s (c :: l) bad) :
    Calls Tryz.prog 131 #[.pointer (some ⟨b, 0, none⟩)] w fun e w' => e = .returned (.int .u8 c.toNat) ∧ RdAt w' b s l bad ∧ w.grownBy w' (some b) := by
  obtain ⟨i, h, ⟨hi, hc⟩, hl⟩ := h.cons
  obtain ⟨c0, c1, c2, f1, f2⟩ := h.c
  have h3 := h.2.2
  have H := hidI h
  have Hc := hidI hc
  have Hl := hidI hl
  clear h hl hc
  have e1 : ((i : Int) == (s.size : Int)) = false := by rw [beq_eq_false_iff_ne]; omega
  go_enter Tryz.func131, Tryz.ntmps131
  go_wp2
  go_quiet (fail)
  go_wp2
  go_quiet (fail)
  go_wp2
  go_ret
  refine ⟨by rw [Hc.out]; rfl, ⟨i + 1, ⟨?_, by omega, H.out.2.2⟩, Hl.out⟩, gb_drewN (gb_set (gb_refl _ _) _ _) _⟩
  exact heap_set H.out.1 1 _

end Go.Proofs.YtmdemcjmcnfjmaaGreatDoor
