/- What spaces, mark, need and word of json's reader do. -/
import Derived.Test.YtmdemcjmcnfjmaaGreatDoorRa
set_option linter.unusedSimpArgs false
set_option linter.unusedVariables false
namespace Go.Proofs.YtmdemcjmcnfjmaaGreatDoor
open Go.RowKit

set_option maxHeartbeats 1000000 in
theorem spaces_at (w : World) (b : Nat) (s : ByteArray) (l : List UInt8) (bad : Bool) (h : RdAt w b s l bad) :
    Calls Tryz.prog 64 #[.pointer (some ⟨b, 0, none⟩)] w fun e w' => e = .returned (.tuple #[]) ∧ RdAt w' b s (l.dropWhile isSp) bad ∧ w.grownBy w' (some b) := by
  have H := hidI h
  clear h
  go_enter Tryz.func64, Tryz.ntmps64
  go_wp2
  go_loopg [] l.length (fun k wr => ∃ l1, k = l1.length ∧ RdAt wr b s l1 bad ∧ l1.dropWhile isSp = l.dropWhile isSp ∧ w.grownBy wr (some b))
  case atStart => exact ⟨l, rfl, H.out, rfl, gb_refl _ _⟩
  case round =>
    obtain ⟨l1, hk, h1, he, hg⟩ := hrel
    have A : Hid (gk = l1.length ∧ RdAt wr b s l1 bad ∧ l1.dropWhile isSp = l.dropWhile isSp ∧ w.grownBy wr (some b)) := ⟨hk, h1, he, hg⟩
    clear hk he hg
    cases l1 with
    | nil =>
      obtain ⟨c0, c1, c2, f1, f2⟩ := h1.nil.c
      clear h1
      have e0 : decide ((s.size : Int) < (s.size : Int)) = false := by simp
      go_wp2_with fail
      go_quiet (fail)
      go_wp2
      go_end0
      obtain ⟨hk, h1, he, hg⟩ := A.out
      refine ⟨rfl, ?_, gb_drewN hg _⟩
      rw [← he]; exact h1.of_heap rfl
    | cons c l2 =>
      obtain ⟨i, h, ⟨hi, hc⟩, hl⟩ := h1.cons
      obtain ⟨c0, c1, c2, f1, f2⟩ := h.c
      have h3 := h.2.2
      have H1 := hidI h
      have Hc := hidI hc
      have Hl := hidI hl
      clear h h1 hl hc
      have e0 : (i : Int) < (s.size : Int) := by omega
      cases hsp : isSp c with
      | true =>
        have e2 : 0 ≤ Lib.indexByte [32, 9, 10, 13] s[i] := by rw [Hc.out, isSp_index]; exact hsp
        have S := hidI hsp
        clear hsp
        go_wp2_with fail
        go_quiet ((go_at_call 98; exact Calls.quiet_of_same (Tryz.strings_IndexByte _ _ _)))
        go_wp2_with fail
        obtain ⟨hk, h1, he, hg⟩ := A.out
        go_roundg l2.length
        case measure => rw [hk]; simp
        case rel =>
          refine ⟨l2, rfl, ⟨i + 1, ⟨heap_set H1.out.1 1 _, by omega, H1.out.2.2⟩, Hl.out⟩, ?_, gb_drewN (gb_set hg _ _) _⟩
          rw [← he, List.dropWhile_cons, if_pos S.out]
      | false =>
        have e2 : decide (0 ≤ Lib.indexByte [32, 9, 10, 13] s[i]) = false := decide_eq_false (by rw [Hc.out, isSp_index]; simp [hsp])
        have S := hidI hsp
        clear hsp
        go_wp2_with fail
        go_quiet ((go_at_call 98; exact Calls.quiet_of_same (Tryz.strings_IndexByte _ _ _)))
        go_wp2_with fail
        go_end0
        obtain ⟨hk, h1, he, hg⟩ := A.out
        refine ⟨rfl, ?_, gb_drewN hg _⟩
        rw [← he, List.dropWhile_cons, if_neg (by rw [S.out]; simp)]; exact h1.of_heap rfl

set_option maxHeartbeats 400000 in
theorem mark_at (w : World) (b : Nat) (s : ByteArray) (l : List UInt8) (bad : Bool) (m : Int) (c : UInt8) (hm : m = (c.toNat : Int)) (hc0 : c ≠ 0) (h : RdAt w b s l bad) :
    Calls Tryz.prog 133 #[.pointer (some ⟨b, 0, none⟩), .int .u8 m] w fun e w' => e = .returned (.bool (markS c l).isSome) ∧ RdAt w' b s ((markS c l).getD (l.dropWhile isSp)) bad ∧ w.grownBy w' (some b) := by
  have H := hidI h
  have M := hidI hm
  clear h hm
  go_enter Tryz.func133, Tryz.ntmps133
  go_wp2_with fail
  refine (spaces_at _ b s l bad (by exact H.out)).mono ?_
  rintro e w1 ⟨rfl, h1, hg1⟩
  have H1 := hidI h1
  have G1 := hidI hg1
  clear h1 hg1
  go_wp2_with fail
  refine (ahead_at _ b s _ bad (by exact H1.out)).mono ?_
  rintro e w2 ⟨rfl, n, rfl⟩
  cases hl : l.dropWhile isSp with
  | nil =>
    rw [hl] at H1
    have e1 : (((hd0 []).toNat : Int) != m) = true := by
      rw [M.out, bne_iff_ne]
      intro e
      exact hc0 (UInt8.toNat_inj.1 (by simp [hd0] at e ⊢; omega))
    have HL := hidI hl
    clear hl
    go_wp2
    go_ret
    exact ⟨by simp [markS, HL.out], by simp only [markS, HL.out]; exact H1.out.of_heap rfl, gb_drewN G1.out _⟩
  | cons x r =>
    rw [hl] at H1
    obtain ⟨i, h, ⟨hi, hc⟩, hr⟩ := H1.out.cons
    obtain ⟨c0, c1, c2, f1, f2⟩ := h.c
    have h3 := h.2.2
    have H2 := hidI h
    have Hr := hidI hr
    have HL := hidI hl
    clear h hl hr hc
    by_cases hx : x = c
    · have e1 : (((hd0 (x :: r)).toNat : Int) != m) = false := by rw [M.out, hx]; simp [hd0]
      have HX := hidI hx
      clear hx
      go_wp2
      go_ret
      exact ⟨by simp [markS, HL.out, HX.out], by simp only [markS, HL.out, HX.out]; exact ⟨i + 1, ⟨heap_set H2.out.1 1 _, by omega, H2.out.2.2⟩, Hr.out⟩, gb_drewN (gb_set G1.out _ _) _⟩
    · have e1 : (((hd0 (x :: r)).toNat : Int) != m) = true := by
        rw [M.out, bne_iff_ne]
        intro e
        exact hx (UInt8.toNat_inj.1 (by simp [hd0] at e ⊢; omega))
      have HX := hidI hx
      clear hx
      go_wp2
      go_ret
      exact ⟨by simp [markS, HL.out, HX.out], by simp only [markS, HL.out, HX.out]; exact H1.out.of_heap rfl, gb_drewN G1.out _⟩
end Go.Proofs.YtmdemcjmcnfjmaaGreatDoor
