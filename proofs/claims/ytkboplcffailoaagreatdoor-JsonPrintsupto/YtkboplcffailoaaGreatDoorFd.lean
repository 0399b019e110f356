/- What depthOf and ascii of package stairwellref do. -/
import Derived.Test.YtkboplcffailoaaGreatDoorFp
set_option linter.unusedSimpArgs false
set_option linter.unusedVariables false
namespace Go.Proofs.YtkboplcffailoaaGreatDoor
open Go.RowKit

def DptC (d : Nat) : Prop := ∀ (w : World) (ok : Nat → Prop) (t : V) (v : Value), VIs w ok d t v → cnt t ≤ 1000000000000000 →
    Calls Tryz.prog 16 #[v] w fun e w' => e = .returned (.tuple #[.int .i64 (dpt t : Int), .int .i64 (cnt t : Int)]) ∧ Below w.heap.size w w'

set_option maxRecDepth 100000 in
set_option maxHeartbeats 8000000 in
theorem depthOf_succ (d : Nat) (ih : DptC d) : DptC (d + 1) := by
  intro w ok t v h hN
  have IH := hidI ih
  have H := hidI (h.is : In w ok t v)
  obtain ⟨a1, a2, c1, c2, rfl⟩ := h.shape
  have VV : Hid (ValsAre w ok (VIs w ok d) t.l (.slice a2 t.l.length c2)) := hidI (by
    obtain ⟨ks, ls, e, h1, h2, h3, h4, h5⟩ := h
    simp only [Value.agg.injEq, Array.mk.injEq, List.cons.injEq, and_true] at e
    obtain ⟨-, -, -, -, rfl⟩ := e
    exact h5)
  have ll : t.l.length ≤ 9223372036854775807 := VV.out.1
  have B1 := hidI (bel_alloc w (.cells #[.int .i64 t.kind, .int .i64 t.n, .string ⟨t.s.toArray⟩, .slice a1 t.keys.length c1, .slice a2 t.l.length c2] 25))
  have HC := hidI (cnt_eq t)
  have HDT := hidI (dpt_eq t)
  have HN := hidI hN
  clear h ih hN
  go_enter Tryz.func16, Tryz.ntmps16
  go_wp2_with fail
  go_loopg [4, 5, 13] t.l.length (fun gk dd n i wr => ∃ k : Nat, k ≤ t.l.length ∧ gk = t.l.length - k ∧ i = .int .i64 k ∧ dd = .int .i64 (dpts (t.l.take k) : Int) ∧ n = .int .i64 ((1 + cnts (t.l.take k) : Nat) : Int) ∧ Below w.heap.size w wr)
  case atStart => exact ⟨0, Nat.zero_le _, rfl, rfl, rfl, rfl, B1.out⟩
  case round =>
    obtain ⟨k, hk, hgk, rfl, rfl, rfl, hb⟩ := hrel
    have GK := hidI hgk
    have HB := hidI hb
    have q1 := cnts_take (xs := t.l) k
    have q2 := dpts_cnt (t.l.take k)
    have q3 : cnts t.l ≤ 1000000000000000 := by have := HC.out; have := HN.out; omega
    clear hgk hb
    by_cases hlt : k < t.l.length
    · obtain ⟨b, off, rfl, z1, z2, a5, c5, a6, c6, p0, p1, p2, p3, p4, p5⟩ := vals_at VV.out hlt
      unfold maxLen at z2
      replace p0 := cell_bel HB.out p0
      replace p1 := cell_bel HB.out p1
      replace p2 := cell_bel HB.out p2
      replace p3 := cell_bel HB.out p3
      replace p4 := cell_bel HB.out p4
      have P5 := hidI (p5.bel HB.out)
      have w1 : (0 : Int) ≤ (k : Int) := by omega
      have w2 : (k : Int) < (t.l.length : Int) := by omega
      have hx := cnts_mem (List.getElem_mem hlt)
      have hxd := dpt_cnt t.l[k]
      have hxn : cnt t.l[k] ≤ 1000000000000000 := by omega
      have e1 : Hid (dpts (t.l.take (k + 1)) = max (dpts (t.l.take k)) (dpt t.l[k])) := hidI (by rw [take_snocV hlt, dpts_snoc])
      have e2 : Hid (cnts (t.l.take (k + 1)) = cnts (t.l.take k) + cnt t.l[k]) := hidI (by rw [take_snocV hlt, cnts_snoc])
      have q4 := cnts_take (xs := t.l) (k + 1)
      have q5 : cnts (t.l.take k) + cnt t.l[k] ≤ 1000000000000000 := by have := e2.out; omega
      clear p5 q4
      obtain ⟨x, hxe⟩ : ∃ x, dpt t.l[k] = x := ⟨_, rfl⟩
      obtain ⟨m, hme⟩ : ∃ m, cnt t.l[k] = m := ⟨_, rfl⟩
      obtain ⟨dd, hdd⟩ : ∃ m, dpts (t.l.take k) = m := ⟨_, rfl⟩
      obtain ⟨nn, hnn⟩ : ∃ m, cnts (t.l.take k) = m := ⟨_, rfl⟩
      rw [hme] at q5 hx hxn hxd
      rw [hxe] at hxd
      rw [hdd] at q2 ⊢
      rw [hnn] at q1 q2 q5 ⊢
      have X1 := hidI hxe
      have X2 := hidI hme
      have X3 := hidI hdd
      have X4 := hidI hnn
      have XN := hidI hxn
      clear hxe hme hdd hnn hxn
      go_wp2_with fail
      refine (IH.out _ ok t.l[k] _ (by exact P5.out.bel (bel_alloc _ _)) (by rw [X2.out]; exact XN.out)).mono ?_
      rintro e w4 ⟨rfl, hb4⟩
      rw [X1.out, X2.out]
      have HB4 := hidI (bel_trans HB.out (bel_trans (bel_alloc _ _) hb4))
      clear hb4 p0 p1 p2 p3 p4
      by_cases hmx : dd ≤ x
      · have m1 : max (dd : Int) (x : Int) = (x : Int) := by omega
        go_wp2_with fail
        go_roundg (t.l.length - (k + 1))
        case measure => rw [GK.out]; omega
        case rel => exact ⟨k + 1, hlt, rfl, by go_num, by rw [e1.out, X1.out, X3.out, Nat.max_eq_right hmx], by rw [e2.out, X2.out, X4.out]; go_num, HB4.out⟩
      · have m1 : max (dd : Int) (x : Int) = (dd : Int) := by omega
        go_wp2_with fail
        go_roundg (t.l.length - (k + 1))
        case measure => rw [GK.out]; omega
        case rel => exact ⟨k + 1, hlt, rfl, by go_num, by rw [e1.out, X1.out, X3.out, Nat.max_eq_left (by omega)], by rw [e2.out, X2.out, X4.out]; go_num, HB4.out⟩
    · have l1 : t.l.take k = t.l := List.take_of_length_le (by omega)
      have d1 : ¬ (k : Int) < (t.l.length : Int) := by omega
      rw [l1] at q2 q1 ⊢
      have F1 : Hid (((dpts t.l : Int) + 1) = (dpt t : Int)) := hidI (by rw [HDT.out]; omega)
      have F2 : Hid (((1 + cnts t.l : Nat) : Int) = (cnt t : Int)) := hidI (by rw [HC.out])
      clear l1
      go_wp2_with fail
      go_ret2
      exact ⟨by rw [← F1.out, ← F2.out]; rfl, HB.out⟩
theorem depthOf_all (d : Nat) : DptC d := by
  induction d with
  | zero => exact fun _ _ _ _ h => h.elim
  | succ d ih => exact depthOf_succ d ih
theorem depthOf_is (w : World) (ok : Nat → Prop) (t : V) (v : Value) (h : In w ok t v) (hN : cnt t ≤ 1000000000000000) :
    Calls Tryz.prog 16 #[v] w fun e w' => e = .returned (.tuple #[.int .i64 (dpt t : Int), .int .i64 (cnt t : Int)]) ∧ Below w.heap.size w w' := by
  obtain ⟨d, h⟩ := h; exact depthOf_all d w ok t v h hN
end Go.Proofs.YtkboplcffailoaaGreatDoor
