/- What SameValue of package stairwellref does. -/
import Derived.Test.YtkboplcffailoaaGreatDoorTp
import Derived.Test.YtkboplcffailoaaGreatDoorXz
set_option linter.unusedSimpArgs false
set_option linter.unusedVariables false
namespace Go.Proofs.YtkboplcffailoaaGreatDoor
open Go.RowKit

def RSameC (d : Nat) : Prop := ∀ (w : World) (ok ok' : Nat → Prop) (a b : V) (va vb : Value), VIs w ok d a va → VIs w ok' d b vb →
    Calls Tryz.prog 11 #[va, vb] w fun e w' => e = .returned (.bool (sameS d a b)) ∧ Below w.heap.size w w'

set_option maxRecDepth 100000 in
set_option maxHeartbeats 8000000 in
theorem rsame_succ (d : Nat) (ih : RSameC d) : RSameC (d + 1) := by
  intro w ok ok' a b va vb ha hb
  obtain ⟨a1, a2, c1, c2, rfl⟩ := ha.shape
  obtain ⟨b1, b2, d1, d2, rfl⟩ := hb.shape
  have IH := hidI ih
  have lA : a.keys.length ≤ maxLen ∧ a.l.length ≤ maxLen := by obtain ⟨ks, ls, e, h1, h2, h3, h4, h5⟩ := ha; exact ⟨h4.1, h5.1⟩
  have lB : b.keys.length ≤ maxLen ∧ b.l.length ≤ maxLen := by obtain ⟨ks, ls, e, h1, h2, h3, h4, h5⟩ := hb; exact ⟨h4.1, h5.1⟩
  unfold maxLen at lA lB
  obtain ⟨lA1, lA2⟩ := lA
  obtain ⟨lB1, lB2⟩ := lB
  have HA := hidI ha
  have HB := hidI hb
  clear ha hb ih
  by_cases hk : ¬ (a.kind = b.kind)
  · have F : Hid (sameS (d + 1) a b = false) := hidI (by simp [sameS, hk])
    have Ehk : (a.kind == b.kind) = false := by rw [beq_eq_false_iff_ne]; exact hk
    have Nhk : (a.kind != b.kind) = true := by simp [bne, Ehk]
    go_enter Tryz.func11, Tryz.ntmps11
    go_wp2_with fail
    all_goals
      go_ret
      rw [F.out]
      exact ⟨rfl, bel_trans (bel_alloc _ _) (bel_alloc _ _)⟩
  rw [Decidable.not_not] at hk
  by_cases hn : ¬ (a.n = b.n)
  · have F : Hid (sameS (d + 1) a b = false) := hidI (by simp [sameS, hn])
    have Ehk : (a.kind == b.kind) = true := by rw [beq_iff_eq]; exact hk
    have Ehn : (a.n == b.n) = false := by rw [beq_eq_false_iff_ne]; exact hn
    have Nhn : (a.n != b.n) = true := by simp [bne, Ehn]
    clear hk
    go_enter Tryz.func11, Tryz.ntmps11
    go_wp2_with fail
    all_goals
      go_ret
      rw [F.out]
      exact ⟨rfl, bel_trans (bel_alloc _ _) (bel_alloc _ _)⟩
  rw [Decidable.not_not] at hn
  by_cases hs : ¬ (a.s = b.s)
  · have F : Hid (sameS (d + 1) a b = false) := hidI (by simp [sameS, hs])
    have Ehk : (a.kind == b.kind) = true := by rw [beq_iff_eq]; exact hk
    have Ehn : (a.n == b.n) = true := by rw [beq_iff_eq]; exact hn
    have Ehs : (ByteArray.mk a.s.toArray == ByteArray.mk b.s.toArray) = false := ba_ne (by simpa using hs)
    have Nhs : (ByteArray.mk a.s.toArray != ByteArray.mk b.s.toArray) = true := by simp [bne, Ehs]
    clear hk hn
    go_enter Tryz.func11, Tryz.ntmps11
    go_wp2_with fail
    all_goals
      go_ret
      rw [F.out]
      exact ⟨rfl, bel_trans (bel_alloc _ _) (bel_alloc _ _)⟩
  rw [Decidable.not_not] at hs
  by_cases hkl : ¬ (a.keys.length = b.keys.length)
  · have hkx : a.keys ≠ b.keys := fun e => hkl (by rw [e])
    have F : Hid (sameS (d + 1) a b = false) := hidI (by simp [sameS, hkx])
    have Ehk : (a.kind == b.kind) = true := by rw [beq_iff_eq]; exact hk
    have Ehn : (a.n == b.n) = true := by rw [beq_iff_eq]; exact hn
    have Ehs : (ByteArray.mk a.s.toArray == ByteArray.mk b.s.toArray) = true := ba_eq (by simpa using hs)
    have Ehkl : ((a.keys.length : Int) == (b.keys.length : Int)) = false := by rw [beq_eq_false_iff_ne]; omega
    have Nhkl : ((a.keys.length : Int) != (b.keys.length : Int)) = true := by simp only [bne, Ehkl, Bool.not_false]
    clear hkx
    clear hk hn hs
    go_enter Tryz.func11, Tryz.ntmps11
    go_wp2_with fail
    all_goals
      go_ret
      rw [F.out]
      exact ⟨rfl, bel_trans (bel_alloc _ _) (bel_alloc _ _)⟩
  rw [Decidable.not_not] at hkl
  by_cases hll : ¬ (a.l.length = b.l.length)
  · have F : Hid (sameS (d + 1) a b = false) := hidI (by simp [sameS, hll])
    have Ehk : (a.kind == b.kind) = true := by rw [beq_iff_eq]; exact hk
    have Ehn : (a.n == b.n) = true := by rw [beq_iff_eq]; exact hn
    have Ehs : (ByteArray.mk a.s.toArray == ByteArray.mk b.s.toArray) = true := ba_eq (by simpa using hs)
    have Ehkl : ((a.keys.length : Int) == (b.keys.length : Int)) = true := by rw [beq_iff_eq]; omega
    have Ehll : ((a.l.length : Int) == (b.l.length : Int)) = false := by rw [beq_eq_false_iff_ne]; omega
    have Nhll : ((a.l.length : Int) != (b.l.length : Int)) = true := by simp only [bne, Ehll, Bool.not_false]
    clear hk hn hs hkl
    go_enter Tryz.func11, Tryz.ntmps11
    go_wp2_with fail
    all_goals
      go_ret
      rw [F.out]
      exact ⟨rfl, bel_trans (bel_alloc _ _) (bel_alloc _ _)⟩
  rw [Decidable.not_not] at hll
  have FS : Hid (sameS (d + 1) a b = (decide (a.keys = b.keys) && allS (sameS d) a.l b.l)) := hidI (by simp [sameS, hk, hn, hs, hll])
  have HKL := hidI hkl
  have HLL := hidI hll
  rw [← hk, ← hn, ← hs, ← hkl, ← hll] at HB ⊢
  have es : (ByteArray.mk a.s.toArray == ByteArray.mk a.s.toArray) = true := ba_eq rfl
  have I0 : Hid (SameI w ((w.alloc (.cells #[.int .i64 a.kind, .int .i64 a.n, .string ⟨a.s.toArray⟩, .slice a1 a.keys.length c1, .slice a2 a.l.length c2] 25)).alloc (.cells #[.int .i64 a.kind, .int .i64 a.n, .string ⟨a.s.toArray⟩, .slice b1 a.keys.length d1, .slice b2 a.l.length d2] 25)) ok ok' (d + 1) a b a.kind a.n a.s a.keys.length a.l.length a1 a2 b1 b2 c1 c2 d1 d2) :=
    ⟨h2a w _ _, h2b w _ _, HA.out.bel (bel_trans (bel_alloc _ _) (bel_alloc _ _)), HB.out.bel (bel_trans (bel_alloc _ _) (bel_alloc _ _)), bel_trans (bel_alloc _ _) (bel_alloc _ _)⟩
  clear hk hn hs hkl hll
  go_enter Tryz.func11, Tryz.ntmps11
  go_wp2_with fail
  go_loopg [47] a.keys.length (fun gk i wr => ∃ (k : Nat), k ≤ a.keys.length ∧ gk = a.keys.length - k ∧ i = .int .i64 k ∧ (∀ j, j < k → a.keys[j]? = b.keys[j]?) ∧ SameI w wr ok ok' (d + 1) a b a.kind a.n a.s a.keys.length a.l.length a1 a2 b1 b2 c1 c2 d1 d2)
  case atStart => exact ⟨0, Nat.zero_le _, rfl, rfl, fun j hj => absurd hj (by omega), I0.out⟩
  case round =>
    obtain ⟨k, hk, hgk, rfl, hke, hI⟩ := hrel
    have A := hidI (And.intro hke hI)
    obtain ⟨x0, x1, x2, x3, x4, -⟩ := hI.1.c
    obtain ⟨y0, y1, y2, y3, y4, -⟩ := hI.2.1.c
    clear hke
    by_cases hlt : k < a.keys.length
    · have hlt2 : k < b.keys.length := by rw [← HKL.out]; exact hlt
      obtain ⟨g1, o1, rfl, z1, z2, z3⟩ : ∃ g1 o1, a1 = some ⟨g1, o1, none⟩ ∧ a.keys.length ≤ c1 ∧ c1 ≤ maxLen ∧ wr.cell? ⟨g1, o1 + k, none⟩ = some (.string ⟨a.keys[k].toArray⟩) := by
        obtain ⟨ks, ls, e, -, -, -, h4, -⟩ := hI.2.2.1
        simp only [Value.agg.injEq, Array.mk.injEq, List.cons.injEq, and_true] at e
        obtain ⟨-, -, -, rfl, -⟩ := e
        exact strs_at h4 hlt
      obtain ⟨g2, o2, rfl, z4, z5, z6⟩ : ∃ g2 o2, b1 = some ⟨g2, o2, none⟩ ∧ b.keys.length ≤ d1 ∧ d1 ≤ maxLen ∧ wr.cell? ⟨g2, o2 + k, none⟩ = some (.string ⟨b.keys[k].toArray⟩) := by
        obtain ⟨ks, ls, e, -, -, -, h4, -⟩ := hI.2.2.2.1
        simp only [Value.agg.injEq, Array.mk.injEq, List.cons.injEq, and_true] at e
        obtain ⟨-, -, -, rfl, -⟩ := e
        exact strs_at h4 hlt2
      unfold maxLen at z2 z5
      clear hI
      by_cases hq : a.keys[k] = b.keys[k]
      · rw [← hq] at z6
        have q1 : (ByteArray.mk a.keys[k].toArray == ByteArray.mk a.keys[k].toArray) = true := ba_eq rfl
        have HQ := hidI hq
        clear hq
        go_wp2_with fail
        go_quiet (fail)
        go_wp2_with fail
        go_roundg (a.keys.length - (k + 1))
        case measure => omega
        case rel =>
          refine ⟨k + 1, hlt, rfl, by go_num, ?_, A.out.2.drewN _⟩
          intro j hj
          by_cases hjk : j < k
          · exact A.out.1 j hjk
          · have : j = k := by omega
            subst this
            rw [List.getElem?_eq_getElem hlt, List.getElem?_eq_getElem hlt2, HQ.out]
      · have q1 : (ByteArray.mk a.keys[k].toArray == ByteArray.mk b.keys[k].toArray) = false := ba_ne (by simpa using hq)
        have q2 : (a.keys[k] == b.keys[k]) = false := by rw [beq_eq_false_iff_ne]; exact hq
        have HQ := hidI hq
        clear hq
        go_wp2_with fail
        go_quiet (fail)
        go_wp2_with fail
        go_ret
        refine ⟨?_, (A.out.2.drewN _).2.2.2.2⟩
        have hne : a.keys ≠ b.keys := by
          intro e
          apply HQ.out
          have := congrArg (fun l => l[k]?) e
          simp only [List.getElem?_eq_getElem hlt, List.getElem?_eq_getElem hlt2, Option.some.injEq] at this
          exact this
        rw [FS.out]
        simp [hne]
    · have hke : Hid (a.keys = b.keys) := hidI (by
        apply List.ext_getElem?
        intro j
        by_cases hj : j < k
        · exact A.out.1 j hj
        · have h1 : a.keys.length ≤ j := by omega
          rw [List.getElem?_eq_none h1, List.getElem?_eq_none (by rw [← HKL.out]; exact h1)])
      have AI := hidI A.out.2
      clear hI A x0 x1 x2 x3 x4 y0 y1 y2 y3 y4
      obtain ⟨x0, x1, x2, x3, x4, -⟩ := AI.out.1.c
      obtain ⟨y0, y1, y2, y3, y4, -⟩ := AI.out.2.1.c
      go_wp2_with fail
      go_loopg [65] a.l.length (fun gk i wr => ∃ (k : Nat), k ≤ a.l.length ∧ gk = a.l.length - k ∧ i = .int .i64 k ∧ (∀ (j : Nat) (x y : V), j < k → a.l[j]? = some x → b.l[j]? = some y → sameS d x y = true) ∧ SameI w wr ok ok' (d + 1) a b a.kind a.n a.s a.keys.length a.l.length a1 a2 b1 b2 c1 c2 d1 d2)
      case atStart => exact ⟨0, Nat.zero_le _, rfl, rfl, fun j x y hj => absurd hj (by omega), AI.out⟩
      case round =>
        obtain ⟨k', hk', hgk', rfl, hall, hI⟩ := hrel
        have A := hidI (And.intro hall hI)
        clear hall x0 x1 x2 x3 x4 y0 y1 y2 y3 y4
        by_cases hlt' : k' < a.l.length
        · have hltb : k' < b.l.length := by rw [← HLL.out]; exact hlt'
          obtain ⟨g1, o1, rfl, z1, z2, a5, c5, a6, c6, p0, p1, p2, p3, p4, p5⟩ : ∃ g1 o1, a2 = some ⟨g1, o1, none⟩ ∧ a.l.length ≤ c2 ∧ c2 ≤ maxLen ∧ _ := by
            obtain ⟨ks, ls, e, -, -, -, -, h5⟩ := hI.2.2.1
            simp only [Value.agg.injEq, Array.mk.injEq, List.cons.injEq, and_true] at e
            obtain ⟨-, -, -, -, rfl⟩ := e
            exact vals_at h5 hlt'
          obtain ⟨g2, o2, rfl, z4, z5, a5', c5', a6', c6', q0, q1, q2, q3, q4, q5⟩ : ∃ g2 o2, b2 = some ⟨g2, o2, none⟩ ∧ b.l.length ≤ d2 ∧ d2 ≤ maxLen ∧ _ := by
            obtain ⟨ks, ls, e, -, -, -, -, h5⟩ := hI.2.2.2.1
            simp only [Value.agg.injEq, Array.mk.injEq, List.cons.injEq, and_true] at e
            obtain ⟨-, -, -, -, rfl⟩ := e
            exact vals_at h5 hltb
          unfold maxLen at z2 z5
          have x4 := hI.1.c.2.2.2.2.1
          have y4 := hI.2.1.c.2.2.2.2.1
          have CALL : Hid (∀ w', Below wr.heap.size wr w' → Calls Tryz.prog 11 #[.agg #[.int .i64 a.l[k'].kind, .int .i64 a.l[k'].n, .string ⟨a.l[k'].s.toArray⟩, .slice a5 a.l[k'].keys.length c5, .slice a6 a.l[k'].l.length c6], .agg #[.int .i64 b.l[k'].kind, .int .i64 b.l[k'].n, .string ⟨b.l[k'].s.toArray⟩, .slice a5' b.l[k'].keys.length c5', .slice a6' b.l[k'].l.length c6']] w' fun e w3 => e = .returned (.bool (sameS d a.l[k'] b.l[k'])) ∧ Below wr.heap.size wr w3 ∧
              w3.cell? ⟨w.heap.size, 4, none⟩ = some (.slice (some ⟨g1, o1, none⟩) a.l.length c2) ∧ w3.cell? ⟨w.heap.size + 1, 4, none⟩ = some (.slice (some ⟨g2, o2, none⟩) a.l.length d2) ∧
              w3.cell? ⟨g1, o1 + k' * 5, none⟩ = some (.int .i64 a.l[k'].kind) ∧ w3.cell? ⟨g1, o1 + k' * 5 + 1, none⟩ = some (.int .i64 a.l[k'].n) ∧ w3.cell? ⟨g1, o1 + k' * 5 + 2, none⟩ = some (.string ⟨a.l[k'].s.toArray⟩) ∧ w3.cell? ⟨g1, o1 + k' * 5 + 3, none⟩ = some (.slice a5 a.l[k'].keys.length c5) ∧ w3.cell? ⟨g1, o1 + k' * 5 + 4, none⟩ = some (.slice a6 a.l[k'].l.length c6) ∧
              w3.cell? ⟨g2, o2 + k' * 5, none⟩ = some (.int .i64 b.l[k'].kind) ∧ w3.cell? ⟨g2, o2 + k' * 5 + 1, none⟩ = some (.int .i64 b.l[k'].n) ∧ w3.cell? ⟨g2, o2 + k' * 5 + 2, none⟩ = some (.string ⟨b.l[k'].s.toArray⟩) ∧ w3.cell? ⟨g2, o2 + k' * 5 + 3, none⟩ = some (.slice a5' b.l[k'].keys.length c5') ∧ w3.cell? ⟨g2, o2 + k' * 5 + 4, none⟩ = some (.slice a6' b.l[k'].l.length c6')) := by
            intro w' hb'
            refine (IH.out w' ok ok' a.l[k'] b.l[k'] _ _ (p5.bel hb') (q5.bel hb')).mono ?_
            rintro e w3 ⟨rfl, hb3⟩
            have hb4 := bel_trans hb' hb3
            exact ⟨rfl, hb4, cell_bel hb4 x4, cell_bel hb4 y4, cell_bel hb4 p0, cell_bel hb4 p1, cell_bel hb4 p2, cell_bel hb4 p3, cell_bel hb4 p4, cell_bel hb4 q0, cell_bel hb4 q1, cell_bel hb4 q2, cell_bel hb4 q3, cell_bel hb4 q4⟩
          clear hI p5 q5
          go_wp2_with fail
          go_region_held3 (fun w3 => w3.cell? ⟨w.heap.size, 4, none⟩ = some (.slice (some ⟨g1, o1, none⟩) a.l.length c2) ∧ w3.cell? ⟨w.heap.size + 1, 4, none⟩ = some (.slice (some ⟨g2, o2, none⟩) a.l.length d2) ∧
              w3.cell? ⟨g1, o1 + k' * 5, none⟩ = some (.int .i64 a.l[k'].kind) ∧ w3.cell? ⟨g1, o1 + k' * 5 + 1, none⟩ = some (.int .i64 a.l[k'].n) ∧ w3.cell? ⟨g1, o1 + k' * 5 + 2, none⟩ = some (.string ⟨a.l[k'].s.toArray⟩) ∧ w3.cell? ⟨g1, o1 + k' * 5 + 3, none⟩ = some (.slice a5 a.l[k'].keys.length c5) ∧ w3.cell? ⟨g1, o1 + k' * 5 + 4, none⟩ = some (.slice a6 a.l[k'].l.length c6) ∧
              w3.cell? ⟨g2, o2 + k' * 5, none⟩ = some (.int .i64 b.l[k'].kind) ∧ w3.cell? ⟨g2, o2 + k' * 5 + 1, none⟩ = some (.int .i64 b.l[k'].n) ∧ w3.cell? ⟨g2, o2 + k' * 5 + 2, none⟩ = some (.string ⟨b.l[k'].s.toArray⟩) ∧ w3.cell? ⟨g2, o2 + k' * 5 + 3, none⟩ = some (.slice a5' b.l[k'].keys.length c5') ∧ w3.cell? ⟨g2, o2 + k' * 5 + 4, none⟩ = some (.slice a6' b.l[k'].l.length c6')) (go_keep)
            (first | (go_at_call 11; refine (CALL.out _ (by exact ⟨rfl, rfl, rfl, Nat.le_refl _, fun _ _ => rfl⟩)).mono ?_; rintro e w3 ⟨rfl, hb3, s1, s2, s3, s4, s5, s6, s7, s8, s9, s10, s11, s12⟩))
          all_goals
            have A3 := hidI (A.out.2.below hb3)
            clear s1 s2 s3 s4 s5 s6 s7 s8 s9 s10 s11 s12 hb3 p0 p1 p2 p3 p4 q0 q1 q2 q3 q4 x4 y4
            cases hr : sameS d a.l[k'] b.l[k'] with
            | true =>
              have HR := hidI hr
              clear hr
              go_wp2_with fail
              go_roundg (a.l.length - (k' + 1))
              case measure => omega
              case rel =>
                refine ⟨k' + 1, hlt', rfl, by go_num, ?_, A3.out⟩
                intro j x y hj hx hy
                by_cases hjk : j < k'
                · exact A.out.1 j x y hjk hx hy
                · have : j = k' := by omega
                  subst this
                  rw [List.getElem?_eq_getElem hlt'] at hx
                  rw [List.getElem?_eq_getElem hltb] at hy
                  cases hx
                  cases hy
                  exact HR.out
            | false =>
              have HR := hidI hr
              clear hr
              go_wp2_with fail
              go_ret
              refine ⟨?_, A3.out.2.2.2.2⟩
              have hno : allS (sameS d) a.l b.l = false := by
                cases h9 : allS (sameS d) a.l b.l with
                | false => rfl
                | true =>
                  have := (allS_iff _ _).1 h9 k' _ _ (List.getElem?_eq_getElem hlt') (List.getElem?_eq_getElem hltb)
                  rw [HR.out] at this
                  cases this
              rw [FS.out, hno, Bool.and_false]
              rfl
        · have A3 := hidI A.out
          clear hI A
          go_wp2_with fail
          go_ret
          refine ⟨?_, A3.out.2.2.2.2.2⟩
          have hyes : allS (sameS d) a.l b.l = true := (allS_iff _ _).2 fun j x y hx hy => A3.out.1 j x y (by have := (List.getElem?_eq_some_iff.1 hx).1; omega) hx hy
          rw [FS.out, hyes, hke.out]
          simp
theorem rsame_all (d : Nat) : RSameC d := by
  induction d with
  | zero => exact fun _ _ _ _ _ _ _ h => h.elim
  | succ d ih => exact rsame_succ d ih
theorem allS_eq {f : V → V → Bool} : ∀ (l m : List V), l.length = m.length → (∀ x ∈ l, ∀ y, f x y = true ↔ x = y) → (allS f l m = true ↔ l = m)
  | [], [], _, _ => by simp [allS]
  | [], _ :: _, h, _ => by simp at h
  | _ :: _, [], h, _ => by simp at h
  | x :: l, y :: m, h, hf => by
    rw [allS, Bool.and_eq_true, hf x (by simp) y, allS_eq l m (by simpa using h) fun z hz => hf z (by simp [hz]), List.cons.injEq]
theorem sameS_iff (d : Nat) : ∀ (a b : V), Dep d a → (sameS d a b = true ↔ a = b) := by
  induction d with
  | zero => intro a b h; exact h.elim
  | succ d ih =>
    intro a b h
    simp only [sameS, Bool.and_eq_true, decide_eq_true_eq]
    constructor
    · rintro ⟨⟨⟨⟨⟨h1, h2⟩, h3⟩, h4⟩, h5⟩, h6⟩
      have e := (allS_eq a.l b.l h5 fun x hx y => ih x y (h x hx)).1 h6
      rw [← V_eta a, ← V_eta b, h1, h2, h3, h4, e]
    · rintro rfl
      exact ⟨⟨⟨⟨⟨rfl, rfl⟩, rfl⟩, rfl⟩, rfl⟩, (allS_eq a.l a.l rfl fun x hx y => ih x y (h x hx)).2 rfl⟩
theorem vis_deep {w : World} {ok : Nat → Prop} : ∀ (d : Nat) {t : V} {v : Value}, VIs w ok d t v → Dep d t
  | 0, _, _, h => h.elim
  | d + 1, t, v, h => by
    obtain ⟨ks, ls, e, h1, h2, h3, h4, h5⟩ := h
    intro x hx
    obtain ⟨y, hy⟩ := vals_mem h5 hx
    exact vis_deep d hy
open Classical in
theorem rsame_is (w : World) (ok ok' : Nat → Prop) (a b : V) (va vb : Value) (ha : In w ok a va) (hb : In w ok' b vb) :
    Calls Tryz.prog 11 #[va, vb] w fun e w' => e = .returned (.bool (decide (a = b))) ∧ Below w.heap.size w w' := by
  obtain ⟨d, ha⟩ := ha
  obtain ⟨d', hb⟩ := hb
  have h1 := VIs.le (show d ≤ d + d' by omega) ha
  refine (rsame_all (d + d') w _ _ a b va vb h1 (VIs.le (by omega) hb)).mono ?_
  rintro e w' ⟨rfl, hb⟩
  refine ⟨?_, hb⟩
  congr 2
  rw [Bool.eq_iff_iff, sameS_iff _ a b (vis_deep _ h1)]; simp
end Go.Proofs.YtkboplcffailoaaGreatDoor
