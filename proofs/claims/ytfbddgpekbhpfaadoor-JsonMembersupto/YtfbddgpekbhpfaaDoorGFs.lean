/- What SameValue of package stairwellref does. -/
import Derived.Test.YtfbddgpekbhpfaaDoorFi
import Derived.Test.YtfbddgpekbhpfaaDoorFj
import Derived.Test.YtfbddgpekbhpfaaDoorFp
import Derived.Test.YtfbddgpekbhpfaaDoorTp
import Derived.Test.YtfbddgpekbhpfaaDoorXa
/- What shaped of package stairwellref does, of every kind. -/
set_option linter.unusedSimpArgs false
set_option linter.unusedVariables false
namespace Go.Proofs.YtfbddgpekbhpfaaDoor
open Go.RowKit

theorem rshaped_all (d : Nat) : ShpC d := by
  induction d with
  | zero => exact fun _ _ _ _ h => h.elim
  | succ d ih =>
    intro w ok t v h
    by_cases h0 : t.kind = 0
    · exact rshaped_k0 d ih w ok t v h h0
    by_cases h1 : t.kind = 1
    · exact rshaped_k1 d ih w ok t v h h1
    by_cases h2 : t.kind = 2
    · exact rshaped_k2 d ih w ok t v h h2
    by_cases h3 : t.kind = 3
    · exact rshaped_k3 d ih w ok t v h h3
    by_cases h4 : t.kind = 4
    · exact rshaped_k4 d ih w ok t v h h4
    by_cases h5 : t.kind = 5
    · exact rshaped_k5 d ih w ok t v h h5
    exact rshaped_k6 d ih w ok t v h ⟨h0, h1, h2, h3, h4, h5⟩
end Go.Proofs.YtfbddgpekbhpfaaDoor

/- What depthOf and ascii of package stairwellref do. -/
set_option linter.unusedSimpArgs false
set_option linter.unusedVariables false
namespace Go.Proofs.YtfbddgpekbhpfaaDoor
open Go.RowKit

def DptC (d : Nat) : Prop := ∀ (w : World) (ok : Nat → Prop) (t : V) (v : Value), VIs w ok d t v → cnt t ≤ 1000000000000000 →
    Calls Tryd.prog 31 #[v] w fun e w' => e = .returned (.tuple #[.int .i64 (dpt t : Int), .int .i64 (cnt t : Int)]) ∧ Below w.heap.size w w'

set_option maxRecDepth 100000 in
set_option maxHeartbeats 8000000 in
theorem depthOf_succ (d : Nat) (ih : DptC d) : DptC (d + 1) := by
  intro w ok t v h hN
  have IH := hidI ih
  have H := hidI (h.is : In w ok t v)
  obtain ⟨a1, a2, c1, c2, rfl⟩ := h.shape
  have VV : Hid (ValsAre w ok (VIs w ok d) t.l (.slice a2 t.l.length c2)) := hidI (by
    obtain ⟨ks, ls, e, h1, h2, h3, h4, h5⟩ := h
    simp only [Value.agg.injEq, Array.mk.injEq, List.cons.injEq, and_true] at e
    obtain ⟨-, -, -, -, rfl⟩ := e
    exact h5)
  have ll : t.l.length ≤ 9223372036854775807 := VV.out.1
  have B1 := hidI (bel_alloc w (.cells #[.int .i64 t.kind, .int .i64 t.n, .string ⟨t.s.toArray⟩, .slice a1 t.keys.length c1, .slice a2 t.l.length c2] 25))
  have HC := hidI (cnt_eq t)
  have HDT := hidI (dpt_eq t)
  have HN := hidI hN
  clear h ih hN
  go_enter Tryd.func31, Tryd.ntmps31
  go_wp2_with fail
  go_loopg [4, 5, 13] t.l.length (fun gk dd n i wr => ∃ k : Nat, k ≤ t.l.length ∧ gk = t.l.length - k ∧ i = .int .i64 k ∧ dd = .int .i64 (dpts (t.l.take k) : Int) ∧ n = .int .i64 ((1 + cnts (t.l.take k) : Nat) : Int) ∧ Below w.heap.size w wr)
  case atStart => exact ⟨0, Nat.zero_le _, rfl, rfl, rfl, rfl, B1.out⟩
  case round =>
    obtain ⟨k, hk, hgk, rfl, rfl, rfl, hb⟩ := hrel
    have GK := hidI hgk
    have HB := hidI hb
    have q1 := cnts_take (xs := t.l) k
    have q2 := dpts_cnt (t.l.take k)
    have q3 : cnts t.l ≤ 1000000000000000 := by have := HC.out; have := HN.out; omega
    clear hgk hb
    by_cases hlt : k < t.l.length
    · obtain ⟨b, off, rfl, z1, z2, a5, c5, a6, c6, p0, p1, p2, p3, p4, p5⟩ := vals_at VV.out hlt
      unfold maxLen at z2
      replace p0 := cell_bel HB.out p0
      replace p1 := cell_bel HB.out p1
      replace p2 := cell_bel HB.out p2
      replace p3 := cell_bel HB.out p3
      replace p4 := cell_bel HB.out p4
      have P5 := hidI (p5.bel HB.out)
      have w1 : (0 : Int) ≤ (k : Int) := by omega
      have w2 : (k : Int) < (t.l.length : Int) := by omega
      have hx := cnts_mem (List.getElem_mem hlt)
      have hxd := dpt_cnt t.l[k]
      have hxn : cnt t.l[k] ≤ 1000000000000000 := by omega
      have e1 : Hid (dpts (t.l.take (k + 1)) = max (dpts (t.l.take k)) (dpt t.l[k])) := hidI (by rw [take_snocV hlt, dpts_snoc])
      have e2 : Hid (cnts (t.l.take (k + 1)) = cnts (t.l.take k) + cnt t.l[k]) := hidI (by rw [take_snocV hlt, cnts_snoc])
      have q4 := cnts_take (xs := t.l) (k + 1)
      have q5 : cnts (t.l.take k) + cnt t.l[k] ≤ 1000000000000000 := by have := e2.out; omega
      clear p5 q4
      obtain ⟨x, hxe⟩ : ∃ x, dpt t.l[k] = x := ⟨_, rfl⟩
      obtain ⟨m, hme⟩ : ∃ m, cnt t.l[k] = m := ⟨_, rfl⟩
      obtain ⟨dd, hdd⟩ : ∃ m, dpts (t.l.take k) = m := ⟨_, rfl⟩
      obtain ⟨nn, hnn⟩ : ∃ m, cnts (t.l.take k) = m := ⟨_, rfl⟩
      rw [hme] at q5 hx hxn hxd
      rw [hxe] at hxd
      rw [hdd] at q2 ⊢
      rw [hnn] at q1 q2 q5 ⊢
      have X1 := hidI hxe
      have X2 := hidI hme
      have X3 := hidI hdd
      have X4 := hidI hnn
      have XN := hidI hxn
      clear hxe hme hdd hnn hxn
      go_wp2_with fail
      refine (IH.out _ ok t.l[k] _ (by exact P5.out.bel (bel_alloc _ _)) (by rw [X2.out]; exact XN.out)).mono ?_
      rintro e w4 ⟨rfl, hb4⟩
      rw [X1.out, X2.out]
      have HB4 := hidI (bel_trans HB.out (bel_trans (bel_alloc _ _) hb4))
      clear hb4 p0 p1 p2 p3 p4
      by_cases hmx : dd ≤ x
      · have m1 : max (dd : Int) (x : Int) = (x : Int) := by omega
        go_wp2_with fail
        go_roundg (t.l.length - (k + 1))
        case measure => rw [GK.out]; omega
        case rel => exact ⟨k + 1, hlt, rfl, by go_num, by rw [e1.out, X1.out, X3.out, Nat.max_eq_right hmx], by rw [e2.out, X2.out, X4.out]; go_num, HB4.out⟩
      · have m1 : max (dd : Int) (x : Int) = (dd : Int) := by omega
        go_wp2_with fail
        go_roundg (t.l.length - (k + 1))
        case measure => rw [GK.out]; omega
        case rel => exact ⟨k + 1, hlt, rfl, by go_num, by rw [e1.out, X1.out, X3.out, Nat.max_eq_left (by omega)], by rw [e2.out, X2.out, X4.out]; go_num, HB4.out⟩
    · have l1 : t.l.take k = t.l := List.take_of_length_le (by omega)
      have d1 : ¬ (k : Int) < (t.l.length : Int) := by omega
      rw [l1] at q2 q1 ⊢
      have F1 : Hid (((dpts t.l : Int) + 1) = (dpt t : Int)) := hidI (by rw [HDT.out]; omega)
      have F2 : Hid (((1 + cnts t.l : Nat) : Int) = (cnt t : Int)) := hidI (by rw [HC.out])
      clear l1
      go_wp2_with fail
      go_ret2
      exact ⟨by rw [← F1.out, ← F2.out]; rfl, HB.out⟩
theorem depthOf_all (d : Nat) : DptC d := by
  induction d with
  | zero => exact fun _ _ _ _ h => h.elim
  | succ d ih => exact depthOf_succ d ih
theorem depthOf_is (w : World) (ok : Nat → Prop) (t : V) (v : Value) (h : In w ok t v) (hN : cnt t ≤ 1000000000000000) :
    Calls Tryd.prog 31 #[v] w fun e w' => e = .returned (.tuple #[.int .i64 (dpt t : Int), .int .i64 (cnt t : Int)]) ∧ Below w.heap.size w w' := by
  obtain ⟨d, h⟩ := h; exact depthOf_all d w ok t v h hN
end Go.Proofs.YtfbddgpekbhpfaaDoor

/- What GoodValue of package stairwellref answers: what Good answers. -/
set_option linter.unusedSimpArgs false
set_option linter.unusedVariables false
namespace Go.Proofs.YtfbddgpekbhpfaaDoor
open Go.RowKit

theorem rshaped_is (w : World) (ok : Nat → Prop) (t : V) (v : Value) (h : In w ok t v) :
    Calls Tryd.prog 32 #[v] w fun e w' => e = .returned (.bool (shp t)) ∧ Below w.heap.size w w' := by
  obtain ⟨d, h⟩ := h; exact rshaped_all d w ok t v h
set_option maxRecDepth 100000 in
set_option maxHeartbeats 8000000 in
theorem rgood_is (w : World) (ok : Nat → Prop) (t : V) (v : Value) (h : In w ok t v) (hN : cnt t ≤ 1000000000000000) :
    Calls Tryd.prog 16 #[v] w fun e w' => e = .returned (.bool (goodV t)) ∧ Below w.heap.size w w' := by
  have H := hidI h
  have HG := hidI (good_ref t)
  have hd := dpt_cnt t
  obtain ⟨a1, a2, c1, c2, rfl⟩ := h.form
  clear h
  have HN := hidI hN
  obtain ⟨x, hx⟩ : ∃ x, dpt t = x := ⟨_, rfl⟩
  obtain ⟨m, hm⟩ : ∃ m, cnt t = m := ⟨_, rfl⟩
  rw [hm] at hd hN
  rw [hx] at hd
  have X := hidI hx
  have M := hidI hm
  clear hx hm
  go_enter Tryd.func16, Tryd.ntmps16
  go_wp2_with fail
  refine (depthOf_is _ ok t _ (by exact H.out.bel (bel_alloc _ _)) HN.out).mono ?_
  rintro e w1 ⟨rfl, hb1⟩
  rw [X.out, M.out]
  have K1 : Hid (BoxIs w1 w.heap.size (.int .i64 t.kind) (.int .i64 t.n) (.string ⟨t.s.toArray⟩) (.slice a1 t.keys.length c1) (.slice a2 t.l.length c2) ∧ Below w.heap.size w w1) := hidI ⟨box_bel hb1 (heap_alloc_new w _), bel_trans (bel_alloc _ _) hb1⟩
  clear hb1
  obtain ⟨y0, y1, y2, y3, y4, -⟩ := K1.out.1.c
  by_cases h1 : x ≤ 12
  · have q1 : (x : Int) ≤ 12 := by omega
    by_cases h2 : m ≤ 120
    · have q2 : (m : Int) ≤ 120 := by omega
      have HR : Hid (goodV t = shp t) := hidI (by rw [← HG.out, X.out, M.out]; simp [h1, h2])
      clear h1 h2
      go_wp2_with fail
      refine (rshaped_is _ ok t _ (by exact H.out.bel K1.out.2)).mono ?_
      rintro e w2 ⟨rfl, hb2⟩
      have B2 := hidI (bel_trans K1.out.2 hb2)
      clear hb2
      go_wp2_with fail
      go_ret
      exact ⟨by rw [HR.out]; rfl, B2.out⟩
    · have q2 : ¬ (m : Int) ≤ 120 := by omega
      have HR : Hid (goodV t = false) := hidI (by rw [← HG.out, X.out, M.out]; simp [h2])
      clear h1 h2
      go_wp2_with fail
      go_ret
      exact ⟨by rw [HR.out]; rfl, K1.out.2⟩
  · have q1 : ¬ (x : Int) ≤ 12 := by omega
    have HR : Hid (goodV t = false) := hidI (by rw [← HG.out, X.out, M.out]; simp [h1])
    clear h1
    go_wp2_with fail
    go_ret
    exact ⟨by rw [HR.out]; rfl, K1.out.2⟩
end Go.Proofs.YtfbddgpekbhpfaaDoor

set_option linter.unusedSimpArgs false
set_option linter.unusedVariables false
namespace Go.Proofs.YtfbddgpekbhpfaaDoor
open Go.RowKit

def RSameC (d : Nat) : Prop := ∀ (w : World) (ok ok' : Nat → Prop) (a b : V) (va vb : Value), VIs w ok d a va → VIs w ok' d b vb →
    Calls Tryd.prog 10 #[va, vb] w fun e w' => e = .returned (.bool (sameS d a b)) ∧ Below w.heap.size w w'

set_option maxRecDepth 100000 in
set_option maxHeartbeats 8000000 in
theorem rsame_succ (d : Nat) (ih : RSameC d) : RSameC (d + 1) := by
  intro w ok ok' a b va vb ha hb
  obtain ⟨a1, a2, c1, c2, rfl⟩ := ha.shape
  obtain ⟨b1, b2, d1, d2, rfl⟩ := hb.shape
  have IH := hidI ih
  have lA : a.keys.length ≤ maxLen ∧ a.l.length ≤ maxLen := by obtain ⟨ks, ls, e, h1, h2, h3, h4, h5⟩ := ha; exact ⟨h4.1, h5.1⟩
  have lB : b.keys.length ≤ maxLen ∧ b.l.length ≤ maxLen := by obtain ⟨ks, ls, e, h1, h2, h3, h4, h5⟩ := hb; exact ⟨h4.1, h5.1⟩
  unfold maxLen at lA lB
  obtain ⟨lA1, lA2⟩ := lA
  obtain ⟨lB1, lB2⟩ := lB
  have HA := hidI ha
  have HB := hidI hb
  clear ha hb ih
  by_cases hk : ¬ (a.kind = b.kind)
  · have F : Hid (sameS (d + 1) a b = false) := hidI (by simp [sameS, hk])
    have Ehk : (a.kind == b.kind) = false := by rw [beq_eq_false_iff_ne]; exact hk
    have Nhk : (a.kind != b.kind) = true := by simp [bne, Ehk]
    go_enter Tryd.func10, Tryd.ntmps10
    go_wp2_with fail
    all_goals
      go_ret
      rw [F.out]
      exact ⟨rfl, bel_trans (bel_alloc _ _) (bel_alloc _ _)⟩
  rw [Decidable.not_not] at hk
  by_cases hn : ¬ (a.n = b.n)
  · have F : Hid (sameS (d + 1) a b = false) := hidI (by simp [sameS, hn])
    have Ehk : (a.kind == b.kind) = true := by rw [beq_iff_eq]; exact hk
    have Ehn : (a.n == b.n) = false := by rw [beq_eq_false_iff_ne]; exact hn
    have Nhn : (a.n != b.n) = true := by simp [bne, Ehn]
    clear hk
    go_enter Tryd.func10, Tryd.ntmps10
    go_wp2_with fail
    all_goals
      go_ret
      rw [F.out]
      exact ⟨rfl, bel_trans (bel_alloc _ _) (bel_alloc _ _)⟩
  rw [Decidable.not_not] at hn
  by_cases hs : ¬ (a.s = b.s)
  · have F : Hid (sameS (d + 1) a b = false) := hidI (by simp [sameS, hs])
    have Ehk : (a.kind == b.kind) = true := by rw [beq_iff_eq]; exact hk
    have Ehn : (a.n == b.n) = true := by rw [beq_iff_eq]; exact hn
    have Ehs : (ByteArray.mk a.s.toArray == ByteArray.mk b.s.toArray) = false := ba_ne (by simpa using hs)
    have Nhs : (ByteArray.mk a.s.toArray != ByteArray.mk b.s.toArray) = true := by simp [bne, Ehs]
    clear hk hn
    go_enter Tryd.func10, Tryd.ntmps10
    go_wp2_with fail
    all_goals
      go_ret
      rw [F.out]
      exact ⟨rfl, bel_trans (bel_alloc _ _) (bel_alloc _ _)⟩
  rw [Decidable.not_not] at hs
  by_cases hkl : ¬ (a.keys.length = b.keys.length)
  · have hkx : a.keys ≠ b.keys := fun e => hkl (by rw [e])
    have F : Hid (sameS (d + 1) a b = false) := hidI (by simp [sameS, hkx])
    have Ehk : (a.kind == b.kind) = true := by rw [beq_iff_eq]; exact hk
    have Ehn : (a.n == b.n) = true := by rw [beq_iff_eq]; exact hn
    have Ehs : (ByteArray.mk a.s.toArray == ByteArray.mk b.s.toArray) = true := ba_eq (by simpa using hs)
    have Ehkl : ((a.keys.length : Int) == (b.keys.length : Int)) = false := by rw [beq_eq_false_iff_ne]; omega
    have Nhkl : ((a.keys.length : Int) != (b.keys.length : Int)) = true := by simp only [bne, Ehkl, Bool.not_false]
    clear hkx
    clear hk hn hs
    go_enter Tryd.func10, Tryd.ntmps10
    go_wp2_with fail
    all_goals
      go_ret
      rw [F.out]
      exact ⟨rfl, bel_trans (bel_alloc _ _) (bel_alloc _ _)⟩
  rw [Decidable.not_not] at hkl
  by_cases hll : ¬ (a.l.length = b.l.length)
  · have F : Hid (sameS (d + 1) a b = false) := hidI (by simp [sameS, hll])
    have Ehk : (a.kind == b.kind) = true := by rw [beq_iff_eq]; exact hk
    have Ehn : (a.n == b.n) = true := by rw [beq_iff_eq]; exact hn
    have Ehs : (ByteArray.mk a.s.toArray == ByteArray.mk b.s.toArray) = true := ba_eq (by simpa using hs)
    have Ehkl : ((a.keys.length : Int) == (b.keys.length : Int)) = true := by rw [beq_iff_eq]; omega
    have Ehll : ((a.l.length : Int) == (b.l.length : Int)) = false := by rw [beq_eq_false_iff_ne]; omega
    have Nhll : ((a.l.length : Int) != (b.l.length : Int)) = true := by simp only [bne, Ehll, Bool.not_false]
    clear hk hn hs hkl
    go_enter Tryd.func10, Tryd.ntmps10
    go_wp2_with fail
    all_goals
      go_ret
      rw [F.out]
      exact ⟨rfl, bel_trans (bel_alloc _ _) (bel_alloc _ _)⟩
  rw [Decidable.not_not] at hll
  have FS : Hid (sameS (d + 1) a b = (decide (a.keys = b.keys) && allS (sameS d) a.l b.l)) := hidI (by simp [sameS, hk, hn, hs, hll])
  have HKL := hidI hkl
  have HLL := hidI hll
  rw [← hk, ← hn, ← hs, ← hkl, ← hll] at HB ⊢
  have es : (ByteArray.mk a.s.toArray == ByteArray.mk a.s.toArray) = true := ba_eq rfl
  have I0 : Hid (SameI w ((w.alloc (.cells #[.int .i64 a.kind, .int .i64 a.n, .string ⟨a.s.toArray⟩, .slice a1 a.keys.length c1, .slice a2 a.l.length c2] 25)).alloc (.cells #[.int .i64 a.kind, .int .i64 a.n, .string ⟨a.s.toArray⟩, .slice b1 a.keys.length d1, .slice b2 a.l.length d2] 25)) ok ok' (d + 1) a b a.kind a.n a.s a.keys.length a.l.length a1 a2 b1 b2 c1 c2 d1 d2) :=
    ⟨h2a w _ _, h2b w _ _, HA.out.bel (bel_trans (bel_alloc _ _) (bel_alloc _ _)), HB.out.bel (bel_trans (bel_alloc _ _) (bel_alloc _ _)), bel_trans (bel_alloc _ _) (bel_alloc _ _)⟩
  clear hk hn hs hkl hll
  go_enter Tryd.func10, Tryd.ntmps10
  go_wp2_with fail
  go_loopg [47] a.keys.length (fun gk i wr => ∃ (k : Nat), k ≤ a.keys.length ∧ gk = a.keys.length - k ∧ i = .int .i64 k ∧ (∀ j, j < k → a.keys[j]? = b.keys[j]?) ∧ SameI w wr ok ok' (d + 1) a b a.kind a.n a.s a.keys.length a.l.length a1 a2 b1 b2 c1 c2 d1 d2)
  case atStart => exact ⟨0, Nat.zero_le _, rfl, rfl, fun j hj => absurd hj (by omega), I0.out⟩
  case round =>
    obtain ⟨k, hk, hgk, rfl, hke, hI⟩ := hrel
    have A := hidI (And.intro hke hI)
    obtain ⟨x0, x1, x2, x3, x4, -⟩ := hI.1.c
    obtain ⟨y0, y1, y2, y3, y4, -⟩ := hI.2.1.c
    clear hke
    by_cases hlt : k < a.keys.length
    · have hlt2 : k < b.keys.length := by rw [← HKL.out]; exact hlt
      obtain ⟨g1, o1, rfl, z1, z2, z3⟩ : ∃ g1 o1, a1 = some ⟨g1, o1, none⟩ ∧ a.keys.length ≤ c1 ∧ c1 ≤ maxLen ∧ wr.cell? ⟨g1, o1 + k, none⟩ = some (.string ⟨a.keys[k].toArray⟩) := by
        obtain ⟨ks, ls, e, -, -, -, h4, -⟩ := hI.2.2.1
        simp only [Value.agg.injEq, Array.mk.injEq, List.cons.injEq, and_true] at e
        obtain ⟨-, -, -, rfl, -⟩ := e
        exact strs_at h4 hlt
      obtain ⟨g2, o2, rfl, z4, z5, z6⟩ : ∃ g2 o2, b1 = some ⟨g2, o2, none⟩ ∧ b.keys.length ≤ d1 ∧ d1 ≤ maxLen ∧ wr.cell? ⟨g2, o2 + k, none⟩ = some (.string ⟨b.keys[k].toArray⟩) := by
        obtain ⟨ks, ls, e, -, -, -, h4, -⟩ := hI.2.2.2.1
        simp only [Value.agg.injEq, Array.mk.injEq, List.cons.injEq, and_true] at e
        obtain ⟨-, -, -, rfl, -⟩ := e
        exact strs_at h4 hlt2
      unfold maxLen at z2 z5
      clear hI
      by_cases hq : a.keys[k] = b.keys[k]
      · rw [← hq] at z6
        have q1 : (ByteArray.mk a.keys[k].toArray == ByteArray.mk a.keys[k].toArray) = true := ba_eq rfl
        have HQ := hidI hq
        clear hq
        go_wp2_with fail
        go_quiet (fail)
        go_wp2_with fail
        go_roundg (a.keys.length - (k + 1))
        case measure => omega
        case rel =>
          refine ⟨k + 1, hlt, rfl, by go_num, ?_, A.out.2.drewN _⟩
          intro j hj
          by_cases hjk : j < k
          · exact A.out.1 j hjk
          · have : j = k := by omega
            subst this
            rw [List.getElem?_eq_getElem hlt, List.getElem?_eq_getElem hlt2, HQ.out]
      · have q1 : (ByteArray.mk a.keys[k].toArray == ByteArray.mk b.keys[k].toArray) = false := ba_ne (by simpa using hq)
        have q2 : (a.keys[k] == b.keys[k]) = false := by rw [beq_eq_false_iff_ne]; exact hq
        have HQ := hidI hq
        clear hq
        go_wp2_with fail
        go_quiet (fail)
        go_wp2_with fail
        go_ret
        refine ⟨?_, (A.out.2.drewN _).2.2.2.2⟩
        have hne : a.keys ≠ b.keys := by
          intro e
          apply HQ.out
          have := congrArg (fun l => l[k]?) e
          simp only [List.getElem?_eq_getElem hlt, List.getElem?_eq_getElem hlt2, Option.some.injEq] at this
          exact this
        rw [FS.out]
        simp [hne]
    · have hke : Hid (a.keys = b.keys) := hidI (by
        apply List.ext_getElem?
        intro j
        by_cases hj : j < k
        · exact A.out.1 j hj
        · have h1 : a.keys.length ≤ j := by omega
          rw [List.getElem?_eq_none h1, List.getElem?_eq_none (by rw [← HKL.out]; exact h1)])
      have AI := hidI A.out.2
      clear hI A x0 x1 x2 x3 x4 y0 y1 y2 y3 y4
      obtain ⟨x0, x1, x2, x3, x4, -⟩ := AI.out.1.c
      obtain ⟨y0, y1, y2, y3, y4, -⟩ := AI.out.2.1.c
      go_wp2_with fail
      go_loopg [65] a.l.length (fun gk i wr => ∃ (k : Nat), k ≤ a.l.length ∧ gk = a.l.length - k ∧ i = .int .i64 k ∧ (∀ (j : Nat) (x y : V), j < k → a.l[j]? = some x → b.l[j]? = some y → sameS d x y = true) ∧ SameI w wr ok ok' (d + 1) a b a.kind a.n a.s a.keys.length a.l.length a1 a2 b1 b2 c1 c2 d1 d2)
      case atStart => exact ⟨0, Nat.zero_le _, rfl, rfl, fun j x y hj => absurd hj (by omega), AI.out⟩
      case round =>
        obtain ⟨k', hk', hgk', rfl, hall, hI⟩ := hrel
        have A := hidI (And.intro hall hI)
        clear hall x0 x1 x2 x3 x4 y0 y1 y2 y3 y4
        by_cases hlt' : k' < a.l.length
        · have hltb : k' < b.l.length := by rw [← HLL.out]; exact hlt'
          obtain ⟨g1, o1, rfl, z1, z2, a5, c5, a6, c6, p0, p1, p2, p3, p4, p5⟩ : ∃ g1 o1, a2 = some ⟨g1, o1, none⟩ ∧ a.l.length ≤ c2 ∧ c2 ≤ maxLen ∧ _ := by
            obtain ⟨ks, ls, e, -, -, -, -, h5⟩ := hI.2.2.1
            simp only [Value.agg.injEq, Array.mk.injEq, List.cons.injEq, and_true] at e
            obtain ⟨-, -, -, -, rfl⟩ := e
            exact vals_at h5 hlt'
          obtain ⟨g2, o2, rfl, z4, z5, a5', c5', a6', c6', q0, q1, q2, q3, q4, q5⟩ : ∃ g2 o2, b2 = some ⟨g2, o2, none⟩ ∧ b.l.length ≤ d2 ∧ d2 ≤ maxLen ∧ _ := by
            obtain ⟨ks, ls, e, -, -, -, -, h5⟩ := hI.2.2.2.1
            simp only [Value.agg.injEq, Array.mk.injEq, List.cons.injEq, and_true] at e
            obtain ⟨-, -, -, -, rfl⟩ := e
            exact vals_at h5 hltb
          unfold maxLen at z2 z5
          have x4 := hI.1.c.2.2.2.2.1
          have y4 := hI.2.1.c.2.2.2.2.1
          have CALL : Hid (∀ w', Below wr.heap.size wr w' → Calls Tryd.prog 10 #[.agg #[.int .i64 a.l[k'].kind, .int .i64 a.l[k'].n, .string ⟨a.l[k'].s.toArray⟩, .slice a5 a.l[k'].keys.length c5, .slice a6 a.l[k'].l.length c6], .agg #[.int .i64 b.l[k'].kind, .int .i64 b.l[k'].n, .string ⟨b.l[k'].s.toArray⟩, .slice a5' b.l[k'].keys.length c5', .slice a6' b.l[k'].l.length c6']] w' fun e w3 => e = .returned (.bool (sameS d a.l[k'] b.l[k'])) ∧ Below wr.heap.size wr w3 ∧
              w3.cell? ⟨w.heap.size, 4, none⟩ = some (.slice (some ⟨g1, o1, none⟩) a.l.length c2) ∧ w3.cell? ⟨w.heap.size + 1, 4, none⟩ = some (.slice (some ⟨g2, o2, none⟩) a.l.length d2) ∧
              w3.cell? ⟨g1, o1 + k' * 5, none⟩ = some (.int .i64 a.l[k'].kind) ∧ w3.cell? ⟨g1, o1 + k' * 5 + 1, none⟩ = some (.int .i64 a.l[k'].n) ∧ w3.cell? ⟨g1, o1 + k' * 5 + 2, none⟩ = some (.string ⟨a.l[k'].s.toArray⟩) ∧ w3.cell? ⟨g1, o1 + k' * 5 + 3, none⟩ = some (.slice a5 a.l[k'].keys.length c5) ∧ w3.cell? ⟨g1, o1 + k' * 5 + 4, none⟩ = some (.slice a6 a.l[k'].l.length c6) ∧
              w3.cell? ⟨g2, o2 + k' * 5, none⟩ = some (.int .i64 b.l[k'].kind) ∧ w3.cell? ⟨g2, o2 + k' * 5 + 1, none⟩ = some (.int .i64 b.l[k'].n) ∧ w3.cell? ⟨g2, o2 + k' * 5 + 2, none⟩ = some (.string ⟨b.l[k'].s.toArray⟩) ∧ w3.cell? ⟨g2, o2 + k' * 5 + 3, none⟩ = some (.slice a5' b.l[k'].keys.length c5') ∧ w3.cell? ⟨g2, o2 + k' * 5 + 4, none⟩ = some (.slice a6' b.l[k'].l.length c6')) := by
            intro w' hb'
            refine (IH.out w' ok ok' a.l[k'] b.l[k'] _ _ (p5.bel hb') (q5.bel hb')).mono ?_
            rintro e w3 ⟨rfl, hb3⟩
            have hb4 := bel_trans hb' hb3
            exact ⟨rfl, hb4, cell_bel hb4 x4, cell_bel hb4 y4, cell_bel hb4 p0, cell_bel hb4 p1, cell_bel hb4 p2, cell_bel hb4 p3, cell_bel hb4 p4, cell_bel hb4 q0, cell_bel hb4 q1, cell_bel hb4 q2, cell_bel hb4 q3, cell_bel hb4 q4⟩
          clear hI p5 q5
          go_wp2_with fail
          go_region_held3 (fun w3 => w3.cell? ⟨w.heap.size, 4, none⟩ = some (.slice (some ⟨g1, o1, none⟩) a.l.length c2) ∧ w3.cell? ⟨w.heap.size + 1, 4, none⟩ = some (.slice (some ⟨g2, o2, none⟩) a.l.length d2) ∧
              w3.cell? ⟨g1, o1 + k' * 5, none⟩ = some (.int .i64 a.l[k'].kind) ∧ w3.cell? ⟨g1, o1 + k' * 5 + 1, none⟩ = some (.int .i64 a.l[k'].n) ∧ w3.cell? ⟨g1, o1 + k' * 5 + 2, none⟩ = some (.string ⟨a.l[k'].s.toArray⟩) ∧ w3.cell? ⟨g1, o1 + k' * 5 + 3, none⟩ = some (.slice a5 a.l[k'].keys.length c5) ∧ w3.cell? ⟨g1, o1 + k' * 5 + 4, none⟩ = some (.slice a6 a.l[k'].l.length c6) ∧
              w3.cell? ⟨g2, o2 + k' * 5, none⟩ = some (.int .i64 b.l[k'].kind) ∧ w3.cell? ⟨g2, o2 + k' * 5 + 1, none⟩ = some (.int .i64 b.l[k'].n) ∧ w3.cell? ⟨g2, o2 + k' * 5 + 2, none⟩ = some (.string ⟨b.l[k'].s.toArray⟩) ∧ w3.cell? ⟨g2, o2 + k' * 5 + 3, none⟩ = some (.slice a5' b.l[k'].keys.length c5') ∧ w3.cell? ⟨g2, o2 + k' * 5 + 4, none⟩ = some (.slice a6' b.l[k'].l.length c6')) (go_keep)
            (first | (go_at_call 10; refine (CALL.out _ (by exact ⟨rfl, rfl, rfl, Nat.le_refl _, fun _ _ => rfl⟩)).mono ?_; rintro e w3 ⟨rfl, hb3, s1, s2, s3, s4, s5, s6, s7, s8, s9, s10, s11, s12⟩))
          all_goals
            have A3 := hidI (A.out.2.below hb3)
            clear s1 s2 s3 s4 s5 s6 s7 s8 s9 s10 s11 s12 hb3 p0 p1 p2 p3 p4 q0 q1 q2 q3 q4 x4 y4
            cases hr : sameS d a.l[k'] b.l[k'] with
            | true =>
              have HR := hidI hr
              clear hr
              go_wp2_with fail
              go_roundg (a.l.length - (k' + 1))
              case measure => omega
              case rel =>
                refine ⟨k' + 1, hlt', rfl, by go_num, ?_, A3.out⟩
                intro j x y hj hx hy
                by_cases hjk : j < k'
                · exact A.out.1 j x y hjk hx hy
                · have : j = k' := by omega
                  subst this
                  rw [List.getElem?_eq_getElem hlt'] at hx
                  rw [List.getElem?_eq_getElem hltb] at hy
                  cases hx
                  cases hy
                  exact HR.out
            | false =>
              have HR := hidI hr
              clear hr
              go_wp2_with fail
              go_ret
              refine ⟨?_, A3.out.2.2.2.2⟩
              have hno : allS (sameS d) a.l b.l = false := by
                cases h9 : allS (sameS d) a.l b.l with
                | false => rfl
                | true =>
                  have := (allS_iff _ _).1 h9 k' _ _ (List.getElem?_eq_getElem hlt') (List.getElem?_eq_getElem hltb)
                  rw [HR.out] at this
                  cases this
              rw [FS.out, hno, Bool.and_false]
              rfl
        · have A3 := hidI A.out
          clear hI A
          go_wp2_with fail
          go_ret
          refine ⟨?_, A3.out.2.2.2.2.2⟩
          have hyes : allS (sameS d) a.l b.l = true := (allS_iff _ _).2 fun j x y hx hy => A3.out.1 j x y (by have := (List.getElem?_eq_some_iff.1 hx).1; omega) hx hy
          rw [FS.out, hyes, hke.out]
          simp
theorem rsame_all (d : Nat) : RSameC d := by
  induction d with
  | zero => exact fun _ _ _ _ _ _ _ h => h.elim
  | succ d ih => exact rsame_succ d ih
theorem allS_eq {f : V → V → Bool} : ∀ (l m : List V), l.length = m.length → (∀ x ∈ l, ∀ y, f x y = true ↔ x = y) → (allS f l m = true ↔ l = m)
  | [], [], _, _ => by simp [allS]
  | [], _ :: _, h, _ => by simp at h
  | _ :: _, [], h, _ => by simp at h
  | x :: l, y :: m, h, hf => by
    rw [allS, Bool.and_eq_true, hf x (by simp) y, allS_eq l m (by simpa using h) fun z hz => hf z (by simp [hz]), List.cons.injEq]
theorem sameS_iff (d : Nat) : ∀ (a b : V), Dep d a → (sameS d a b = true ↔ a = b) := by
  induction d with
  | zero => intro a b h; exact h.elim
  | succ d ih =>
    intro a b h
    simp only [sameS, Bool.and_eq_true, decide_eq_true_eq]
    constructor
    · rintro ⟨⟨⟨⟨⟨h1, h2⟩, h3⟩, h4⟩, h5⟩, h6⟩
      have e := (allS_eq a.l b.l h5 fun x hx y => ih x y (h x hx)).1 h6
      rw [← V_eta a, ← V_eta b, h1, h2, h3, h4, e]
    · rintro rfl
      exact ⟨⟨⟨⟨⟨rfl, rfl⟩, rfl⟩, rfl⟩, rfl⟩, (allS_eq a.l a.l rfl fun x hx y => ih x y (h x hx)).2 rfl⟩
theorem vis_deep {w : World} {ok : Nat → Prop} : ∀ (d : Nat) {t : V} {v : Value}, VIs w ok d t v → Dep d t
  | 0, _, _, h => h.elim
  | d + 1, t, v, h => by
    obtain ⟨ks, ls, e, h1, h2, h3, h4, h5⟩ := h
    intro x hx
    obtain ⟨y, hy⟩ := vals_mem h5 hx
    exact vis_deep d hy
open Classical in
theorem rsame_is (w : World) (ok ok' : Nat → Prop) (a b : V) (va vb : Value) (ha : In w ok a va) (hb : In w ok' b vb) :
    Calls Tryd.prog 10 #[va, vb] w fun e w' => e = .returned (.bool (decide (a = b))) ∧ Below w.heap.size w w' := by
  obtain ⟨d, ha⟩ := ha
  obtain ⟨d', hb⟩ := hb
  have h1 := VIs.le (show d ≤ d + d' by omega) ha
  refine (rsame_all (d + d') w _ _ a b va vb h1 (VIs.le (by omega) hb)).mono ?_
  rintro e w' ⟨rfl, hb⟩
  refine ⟨?_, hb⟩
  congr 2
  rw [Bool.eq_iff_iff, sameS_iff _ a b (vis_deep _ h1)]; simp
end Go.Proofs.YtfbddgpekbhpfaaDoor
