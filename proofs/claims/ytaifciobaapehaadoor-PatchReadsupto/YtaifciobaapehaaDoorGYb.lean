/- What moved of package patch does. -/
import Derived.Test.YtaifciobaapehaaDoorTp
import Derived.Test.YtaifciobaapehaaDoorXa
import Derived.Deep.RegionHeld3
import Derived.Test.YtaifciobaapehaaDoorGZd
import Derived.Deep.DrawnRows
import Derived.Test.YtaifciobaapehaaDoorXc
import Derived.Test.YtaifciobaapehaaDoorCh
import Derived.Test.YtaifciobaapehaaDoorXm
import Derived.Test.YtaifciobaapehaaDoorXn
/- What SameValue of package stairwellref does. -/
set_option linter.unusedSimpArgs false
set_option linter.unusedVariables false
namespace Go.Proofs.YtaifciobaapehaaDoor
open Go.RowKit

def RSameC (d : Nat) : Prop := ∀ (w : World) (ok ok' : Nat → Prop) (a b : V) (va vb : Value), VIs w ok d a va → VIs w ok' d b vb →
    Calls Tryd.prog 9 #[va, vb] w fun e w' => e = .returned (.bool (sameS d a b)) ∧ Below w.heap.size w w'

set_option maxRecDepth 100000 in
set_option maxHeartbeats 8000000 in
theorem rsame_succ (d : Nat) (ih : RSameC d) : RSameC (d + 1) := by
  intro w ok ok' a b va vb ha hb
  obtain ⟨a1, a2, c1, c2, rfl⟩ := ha.shape
  obtain ⟨b1, b2, d1, d2, rfl⟩ := hb.shape
  have IH := hidI ih
  have lA : a.keys.length ≤ maxLen ∧ a.l.length ≤ maxLen := by obtain ⟨ks, ls, e, h1, h2, h3, h4, h5⟩ := ha; exact ⟨h4.1, h5.1⟩
  have lB : b.keys.length ≤ maxLen ∧ b.l.length ≤ maxLen := by obtain ⟨ks, ls, e, h1, h2, h3, h4, h5⟩ := hb; exact ⟨h4.1, h5.1⟩
  unfold maxLen at lA lB
  obtain ⟨lA1, lA2⟩ := lA
  obtain ⟨lB1, lB2⟩ := lB
  have HA := hidI ha
  have HB := hidI hb
  clear ha hb ih
  by_cases hk : ¬ (a.kind = b.kind)
  · have F : Hid (sameS (d + 1) a b = false) := hidI (by simp [sameS, hk])
    have Ehk : (a.kind == b.kind) = false := by rw [beq_eq_false_iff_ne]; exact hk
    have Nhk : (a.kind != b.kind) = true := by simp [bne, Ehk]
    go_enter Tryd.func9, Tryd.ntmps9
    go_wp2_with fail
    all_goals
      go_ret
      rw [F.out]
      exact ⟨rfl, bel_trans (bel_alloc _ _) (bel_alloc _ _)⟩
  rw [Decidable.not_not] at hk
  by_cases hn : ¬ (a.n = b.n)
  · have F : Hid (sameS (d + 1) a b = false) := hidI (by simp [sameS, hn])
    have Ehk : (a.kind == b.kind) = true := by rw [beq_iff_eq]; exact hk
    have Ehn : (a.n == b.n) = false := by rw [beq_eq_false_iff_ne]; exact hn
    have Nhn : (a.n != b.n) = true := by simp [bne, Ehn]
    clear hk
    go_enter Tryd.func9, Tryd.ntmps9
    go_wp2_with fail
    all_goals
      go_ret
      rw [F.out]
      exact ⟨rfl, bel_trans (bel_alloc _ _) (bel_alloc _ _)⟩
  rw [Decidable.not_not] at hn
  by_cases hs : ¬ (a.s = b.s)
  · have F : Hid (sameS (d + 1) a b = false) := hidI (by simp [sameS, hs])
    have Ehk : (a.kind == b.kind) = true := by rw [beq_iff_eq]; exact hk
    have Ehn : (a.n == b.n) = true := by rw [beq_iff_eq]; exact hn
    have Ehs : (ByteArray.mk a.s.toArray == ByteArray.mk b.s.toArray) = false := ba_ne (by simpa using hs)
    have Nhs : (ByteArray.mk a.s.toArray != ByteArray.mk b.s.toArray) = true := by simp [bne, Ehs]
    clear hk hn
    go_enter Tryd.func9, Tryd.ntmps9
    go_wp2_with fail
    all_goals
      go_ret
      rw [F.out]
      exact ⟨rfl, bel_trans (bel_alloc _ _) (bel_alloc _ _)⟩
  rw [Decidable.not_not] at hs
  by_cases hkl : ¬ (a.keys.length = b.keys.length)
  · have hkx : a.keys ≠ b.keys := fun e => hkl (by rw [e])
    have F : Hid (sameS (d + 1) a b = false) := hidI (by simp [sameS, hkx])
    have Ehk : (a.kind == b.kind) = true := by rw [beq_iff_eq]; exact hk
    have Ehn : (a.n == b.n) = true := by rw [beq_iff_eq]; exact hn
    have Ehs : (ByteArray.mk a.s.toArray == ByteArray.mk b.s.toArray) = true := ba_eq (by simpa using hs)
    have Ehkl : ((a.keys.length : Int) == (b.keys.length : Int)) = false := by rw [beq_eq_false_iff_ne]; omega
    have Nhkl : ((a.keys.length : Int) != (b.keys.length : Int)) = true := by simp only [bne, Ehkl, Bool.not_false]
    clear hkx
    clear hk hn hs
    go_enter Tryd.func9, Tryd.ntmps9
    go_wp2_with fail
    all_goals
      go_ret
      rw [F.out]
      exact ⟨rfl, bel_trans (bel_alloc _ _) (bel_alloc _ _)⟩
  rw [Decidable.not_not] at hkl
  by_cases hll : ¬ (a.l.length = b.l.length)
  · have F : Hid (sameS (d + 1) a b = false) := hidI (by simp [sameS, hll])
    have Ehk : (a.kind == b.kind) = true := by rw [beq_iff_eq]; exact hk
    have Ehn : (a.n == b.n) = true := by rw [beq_iff_eq]; exact hn
    have Ehs : (ByteArray.mk a.s.toArray == ByteArray.mk b.s.toArray) = true := ba_eq (by simpa using hs)
    have Ehkl : ((a.keys.length : Int) == (b.keys.length : Int)) = true := by rw [beq_iff_eq]; omega
    have Ehll : ((a.l.length : Int) == (b.l.length : Int)) = false := by rw [beq_eq_false_iff_ne]; omega
    have Nhll : ((a.l.length : Int) != (b.l.length : Int)) = true := by simp only [bne, Ehll, Bool.not_false]
    clear hk hn hs hkl
    go_enter Tryd.func9, Tryd.ntmps9
    go_wp2_with fail
    all_goals
      go_ret
      rw [F.out]
      exact ⟨rfl, bel_trans (bel_alloc _ _) (bel_alloc _ _)⟩
  rw [Decidable.not_not] at hll
  have FS : Hid (sameS (d + 1) a b = (decide (a.keys = b.keys) && allS (sameS d) a.l b.l)) := hidI (by simp [sameS, hk, hn, hs, hll])
  have HKL := hidI hkl
  have HLL := hidI hll
  rw [← hk, ← hn, ← hs, ← hkl, ← hll] at HB ⊢
  have es : (ByteArray.mk a.s.toArray == ByteArray.mk a.s.toArray) = true := ba_eq rfl
  have I0 : Hid (SameI w ((w.alloc (.cells #[.int .i64 a.kind, .int .i64 a.n, .string ⟨a.s.toArray⟩, .slice a1 a.keys.length c1, .slice a2 a.l.length c2] 25)).alloc (.cells #[.int .i64 a.kind, .int .i64 a.n, .string ⟨a.s.toArray⟩, .slice b1 a.keys.length d1, .slice b2 a.l.length d2] 25)) ok ok' (d + 1) a b a.kind a.n a.s a.keys.length a.l.length a1 a2 b1 b2 c1 c2 d1 d2) :=
    ⟨h2a w _ _, h2b w _ _, HA.out.bel (bel_trans (bel_alloc _ _) (bel_alloc _ _)), HB.out.bel (bel_trans (bel_alloc _ _) (bel_alloc _ _)), bel_trans (bel_alloc _ _) (bel_alloc _ _)⟩
  clear hk hn hs hkl hll
  go_enter Tryd.func9, Tryd.ntmps9
  go_wp2_with fail
  go_loopg [47] a.keys.length (fun gk i wr => ∃ (k : Nat), k ≤ a.keys.length ∧ gk = a.keys.length - k ∧ i = .int .i64 k ∧ (∀ j, j < k → a.keys[j]? = b.keys[j]?) ∧ SameI w wr ok ok' (d + 1) a b a.kind a.n a.s a.keys.length a.l.length a1 a2 b1 b2 c1 c2 d1 d2)
  case atStart => exact ⟨0, Nat.zero_le _, rfl, rfl, fun j hj => absurd hj (by omega), I0.out⟩
  case round =>
    obtain ⟨k, hk, hgk, rfl, hke, hI⟩ := hrel
    have A := hidI (And.intro hke hI)
    obtain ⟨x0, x1, x2, x3, x4, -⟩ := hI.1.c
    obtain ⟨y0, y1, y2, y3, y4, -⟩ := hI.2.1.c
    clear hke
    by_cases hlt : k < a.keys.length
    · have hlt2 : k < b.keys.length := by rw [← HKL.out]; exact hlt
      obtain ⟨g1, o1, rfl, z1, z2, z3⟩ : ∃ g1 o1, a1 = some ⟨g1, o1, none⟩ ∧ a.keys.length ≤ c1 ∧ c1 ≤ maxLen ∧ wr.cell? ⟨g1, o1 + k, none⟩ = some (.string ⟨a.keys[k].toArray⟩) := by
        obtain ⟨ks, ls, e, -, -, -, h4, -⟩ := hI.2.2.1
        simp only [Value.agg.injEq, Array.mk.injEq, List.cons.injEq, and_true] at e
        obtain ⟨-, -, -, rfl, -⟩ := e
        exact strs_at h4 hlt
      obtain ⟨g2, o2, rfl, z4, z5, z6⟩ : ∃ g2 o2, b1 = some ⟨g2, o2, none⟩ ∧ b.keys.length ≤ d1 ∧ d1 ≤ maxLen ∧ wr.cell? ⟨g2, o2 + k, none⟩ = some (.string ⟨b.keys[k].toArray⟩) := by
        obtain ⟨ks, ls, e, -, -, -, h4, -⟩ := hI.2.2.2.1
        simp only [Value.agg.injEq, Array.mk.injEq, List.cons.injEq, and_true] at e
        obtain ⟨-, -, -, rfl, -⟩ := e
        exact strs_at h4 hlt2
      unfold maxLen at z2 z5
      clear hI
      by_cases hq : a.keys[k] = b.keys[k]
      · rw [← hq] at z6
        have q1 : (ByteArray.mk a.keys[k].toArray == ByteArray.mk a.keys[k].toArray) = true := ba_eq rfl
        have HQ := hidI hq
        clear hq
        go_wp2_with fail
        go_quiet (fail)
        go_wp2_with fail
        go_roundg (a.keys.length - (k + 1))
        case measure => omega
        case rel =>
          refine ⟨k + 1, hlt, rfl, by go_num, ?_, A.out.2.drewN _⟩
          intro j hj
          by_cases hjk : j < k
          · exact A.out.1 j hjk
          · have : j = k := by omega
            subst this
            rw [List.getElem?_eq_getElem hlt, List.getElem?_eq_getElem hlt2, HQ.out]
      · have q1 : (ByteArray.mk a.keys[k].toArray == ByteArray.mk b.keys[k].toArray) = false := ba_ne (by simpa using hq)
        have q2 : (a.keys[k] == b.keys[k]) = false := by rw [beq_eq_false_iff_ne]; exact hq
        have HQ := hidI hq
        clear hq
        go_wp2_with fail
        go_quiet (fail)
        go_wp2_with fail
        go_ret
        refine ⟨?_, (A.out.2.drewN _).2.2.2.2⟩
        have hne : a.keys ≠ b.keys := by
          intro e
          apply HQ.out
          have := congrArg (fun l => l[k]?) e
          simp only [List.getElem?_eq_getElem hlt, List.getElem?_eq_getElem hlt2, Option.some.injEq] at this
          exact this
        rw [FS.out]
        simp [hne]
    · have hke : Hid (a.keys = b.keys) := hidI (by
        apply List.ext_getElem?
        intro j
        by_cases hj : j < k
        · exact A.out.1 j hj
        · have h1 : a.keys.length ≤ j := by omega
          rw [List.getElem?_eq_none h1, List.getElem?_eq_none (by rw [← HKL.out]; exact h1)])
      have AI := hidI A.out.2
      clear hI A x0 x1 x2 x3 x4 y0 y1 y2 y3 y4
      obtain ⟨x0, x1, x2, x3, x4, -⟩ := AI.out.1.c
      obtain ⟨y0, y1, y2, y3, y4, -⟩ := AI.out.2.1.c
      go_wp2_with fail
      go_loopg [65] a.l.length (fun gk i wr => ∃ (k : Nat), k ≤ a.l.length ∧ gk = a.l.length - k ∧ i = .int .i64 k ∧ (∀ (j : Nat) (x y : V), j < k → a.l[j]? = some x → b.l[j]? = some y → sameS d x y = true) ∧ SameI w wr ok ok' (d + 1) a b a.kind a.n a.s a.keys.length a.l.length a1 a2 b1 b2 c1 c2 d1 d2)
      case atStart => exact ⟨0, Nat.zero_le _, rfl, rfl, fun j x y hj => absurd hj (by omega), AI.out⟩
      case round =>
        obtain ⟨k', hk', hgk', rfl, hall, hI⟩ := hrel
        have A := hidI (And.intro hall hI)
        clear hall x0 x1 x2 x3 x4 y0 y1 y2 y3 y4
        by_cases hlt' : k' < a.l.length
        · have hltb : k' < b.l.length := by rw [← HLL.out]; exact hlt'
          obtain ⟨g1, o1, rfl, z1, z2, a5, c5, a6, c6, p0, p1, p2, p3, p4, p5⟩ : ∃ g1 o1, a2 = some ⟨g1, o1, none⟩ ∧ a.l.length ≤ c2 ∧ c2 ≤ maxLen ∧ _ := by
            obtain ⟨ks, ls, e, -, -, -, -, h5⟩ := hI.2.2.1
            simp only [Value.agg.injEq, Array.mk.injEq, List.cons.injEq, and_true] at e
            obtain ⟨-, -, -, -, rfl⟩ := e
            exact vals_at h5 hlt'
          obtain ⟨g2, o2, rfl, z4, z5, a5', c5', a6', c6', q0, q1, q2, q3, q4, q5⟩ : ∃ g2 o2, b2 = some ⟨g2, o2, none⟩ ∧ b.l.length ≤ d2 ∧ d2 ≤ maxLen ∧ _ := by
            obtain ⟨ks, ls, e, -, -, -, -, h5⟩ := hI.2.2.2.1
            simp only [Value.agg.injEq, Array.mk.injEq, List.cons.injEq, and_true] at e
            obtain ⟨-, -, -, -, rfl⟩ := e
            exact vals_at h5 hltb
          unfold maxLen at z2 z5
          have x4 := hI.1.c.2.2.2.2.1
          have y4 := hI.2.1.c.2.2.2.2.1
          have CALL : Hid (∀ w', Below wr.heap.size wr w' → Calls Tryd.prog 9 #[.agg #[.int .i64 a.l[k'].kind, .int .i64 a.l[k'].n, .string ⟨a.l[k'].s.toArray⟩, .slice a5 a.l[k'].keys.length c5, .slice a6 a.l[k'].l.length c6], .agg #[.int .i64 b.l[k'].kind, .int .i64 b.l[k'].n, .string ⟨b.l[k'].s.toArray⟩, .slice a5' b.l[k'].keys.length c5', .slice a6' b.l[k'].l.length c6']] w' fun e w3 => e = .returned (.bool (sameS d a.l[k'] b.l[k'])) ∧ Below wr.heap.size wr w3 ∧
              w3.cell? ⟨w.heap.size, 4, none⟩ = some (.slice (some ⟨g1, o1, none⟩) a.l.length c2) ∧ w3.cell? ⟨w.heap.size + 1, 4, none⟩ = some (.slice (some ⟨g2, o2, none⟩) a.l.length d2) ∧
              w3.cell? ⟨g1, o1 + k' * 5, none⟩ = some (.int .i64 a.l[k'].kind) ∧ w3.cell? ⟨g1, o1 + k' * 5 + 1, none⟩ = some (.int .i64 a.l[k'].n) ∧ w3.cell? ⟨g1, o1 + k' * 5 + 2, none⟩ = some (.string ⟨a.l[k'].s.toArray⟩) ∧ w3.cell? ⟨g1, o1 + k' * 5 + 3, none⟩ = some (.slice a5 a.l[k'].keys.length c5) ∧ w3.cell? ⟨g1, o1 + k' * 5 + 4, none⟩ = some (.slice a6 a.l[k'].l.length c6) ∧
              w3.cell? ⟨g2, o2 + k' * 5, none⟩ = some (.int .i64 b.l[k'].kind) ∧ w3.cell? ⟨g2, o2 + k' * 5 + 1, none⟩ = some (.int .i64 b.l[k'].n) ∧ w3.cell? ⟨g2, o2 + k' * 5 + 2, none⟩ = some (.string ⟨b.l[k'].s.toArray⟩) ∧ w3.cell? ⟨g2, o2 + k' * 5 + 3, none⟩ = some (.slice a5' b.l[k'].keys.length c5') ∧ w3.cell? ⟨g2, o2 + k' * 5 + 4, none⟩ = some (.slice a6' b.l[k'].l.length c6')) := by
            intro w' hb'
            refine (IH.out w' ok ok' a.l[k'] b.l[k'] _ _ (p5.bel hb') (q5.bel hb')).mono ?_
            rintro e w3 ⟨rfl, hb3⟩
            have hb4 := bel_trans hb' hb3
            exact ⟨rfl, hb4, cell_bel hb4 x4, cell_bel hb4 y4, cell_bel hb4 p0, cell_bel hb4 p1, cell_bel hb4 p2, cell_bel hb4 p3, cell_bel hb4 p4, cell_bel hb4 q0, cell_bel hb4 q1, cell_bel hb4 q2, cell_bel hb4 q3, cell_bel hb4 q4⟩
          clear hI p5 q5
          go_wp2_with fail
          go_region_held3 (fun w3 => w3.cell? ⟨w.heap.size, 4, none⟩ = some (.slice (some ⟨g1, o1, none⟩) a.l.length c2) ∧ w3.cell? ⟨w.heap.size + 1, 4, none⟩ = some (.slice (some ⟨g2, o2, none⟩) a.l.length d2) ∧
              w3.cell? ⟨g1, o1 + k' * 5, none⟩ = some (.int .i64 a.l[k'].kind) ∧ w3.cell? ⟨g1, o1 + k' * 5 + 1, none⟩ = some (.int .i64 a.l[k'].n) ∧ w3.cell? ⟨g1, o1 + k' * 5 + 2, none⟩ = some (.string ⟨a.l[k'].s.toArray⟩) ∧ w3.cell? ⟨g1, o1 + k' * 5 + 3, none⟩ = some (.slice a5 a.l[k'].keys.length c5) ∧ w3.cell? ⟨g1, o1 + k' * 5 + 4, none⟩ = some (.slice a6 a.l[k'].l.length c6) ∧
              w3.cell? ⟨g2, o2 + k' * 5, none⟩ = some (.int .i64 b.l[k'].kind) ∧ w3.cell? ⟨g2, o2 + k' * 5 + 1, none⟩ = some (.int .i64 b.l[k'].n) ∧ w3.cell? ⟨g2, o2 + k' * 5 + 2, none⟩ = some (.string ⟨b.l[k'].s.toArray⟩) ∧ w3.cell? ⟨g2, o2 + k' * 5 + 3, none⟩ = some (.slice a5' b.l[k'].keys.length c5') ∧ w3.cell? ⟨g2, o2 + k' * 5 + 4, none⟩ = some (.slice a6' b.l[k'].l.length c6')) (go_keep)
            (first | (go_at_call 9; refine (CALL.out _ (by exact ⟨rfl, rfl, rfl, Nat.le_refl _, fun _ _ => rfl⟩)).mono ?_; rintro e w3 ⟨rfl, hb3, s1, s2, s3, s4, s5, s6, s7, s8, s9, s10, s11, s12⟩))
          all_goals
            have A3 := hidI (A.out.2.below hb3)
            clear s1 s2 s3 s4 s5 s6 s7 s8 s9 s10 s11 s12 hb3 p0 p1 p2 p3 p4 q0 q1 q2 q3 q4 x4 y4
            cases hr : sameS d a.l[k'] b.l[k'] with
            | true =>
              have HR := hidI hr
              clear hr
              go_wp2_with fail
              go_roundg (a.l.length - (k' + 1))
              case measure => omega
              case rel =>
                refine ⟨k' + 1, hlt', rfl, by go_num, ?_, A3.out⟩
                intro j x y hj hx hy
                by_cases hjk : j < k'
                · exact A.out.1 j x y hjk hx hy
                · have : j = k' := by omega
                  subst this
                  rw [List.getElem?_eq_getElem hlt'] at hx
                  rw [List.getElem?_eq_getElem hltb] at hy
                  cases hx
                  cases hy
                  exact HR.out
            | false =>
              have HR := hidI hr
              clear hr
              go_wp2_with fail
              go_ret
              refine ⟨?_, A3.out.2.2.2.2⟩
              have hno : allS (sameS d) a.l b.l = false := by
                cases h9 : allS (sameS d) a.l b.l with
                | false => rfl
                | true =>
                  have := (allS_iff _ _).1 h9 k' _ _ (List.getElem?_eq_getElem hlt') (List.getElem?_eq_getElem hltb)
                  rw [HR.out] at this
                  cases this
              rw [FS.out, hno, Bool.and_false]
              rfl
        · have A3 := hidI A.out
          clear hI A
          go_wp2_with fail
          go_ret
          refine ⟨?_, A3.out.2.2.2.2.2⟩
          have hyes : allS (sameS d) a.l b.l = true := (allS_iff _ _).2 fun j x y hx hy => A3.out.1 j x y (by have := (List.getElem?_eq_some_iff.1 hx).1; omega) hx hy
          rw [FS.out, hyes, hke.out]
          simp
theorem rsame_all (d : Nat) : RSameC d := by
  induction d with
  | zero => exact fun _ _ _ _ _ _ _ h => h.elim
  | succ d ih => exact rsame_succ d ih
theorem allS_eq {f : V → V → Bool} : ∀ (l m : List V), l.length = m.length → (∀ x ∈ l, ∀ y, f x y = true ↔ x = y) → (allS f l m = true ↔ l = m)
  | [], [], _, _ => by simp [allS]
  | [], _ :: _, h, _ => by simp at h
  | _ :: _, [], h, _ => by simp at h
  | x :: l, y :: m, h, hf => by
    rw [allS, Bool.and_eq_true, hf x (by simp) y, allS_eq l m (by simpa using h) fun z hz => hf z (by simp [hz]), List.cons.injEq]
theorem sameS_iff (d : Nat) : ∀ (a b : V), Dep d a → (sameS d a b = true ↔ a = b) := by
  induction d with
  | zero => intro a b h; exact h.elim
  | succ d ih =>
    intro a b h
    simp only [sameS, Bool.and_eq_true, decide_eq_true_eq]
    constructor
    · rintro ⟨⟨⟨⟨⟨h1, h2⟩, h3⟩, h4⟩, h5⟩, h6⟩
      have e := (allS_eq a.l b.l h5 fun x hx y => ih x y (h x hx)).1 h6
      rw [← V_eta a, ← V_eta b, h1, h2, h3, h4, e]
    · rintro rfl
      exact ⟨⟨⟨⟨⟨rfl, rfl⟩, rfl⟩, rfl⟩, rfl⟩, (allS_eq a.l a.l rfl fun x hx y => ih x y (h x hx)).2 rfl⟩
theorem vis_deep {w : World} {ok : Nat → Prop} : ∀ (d : Nat) {t : V} {v : Value}, VIs w ok d t v → Dep d t
  | 0, _, _, h => h.elim
  | d + 1, t, v, h => by
    obtain ⟨ks, ls, e, h1, h2, h3, h4, h5⟩ := h
    intro x hx
    obtain ⟨y, hy⟩ := vals_mem h5 hx
    exact vis_deep d hy
open Classical in
theorem rsame_is (w : World) (ok ok' : Nat → Prop) (a b : V) (va vb : Value) (ha : In w ok a va) (hb : In w ok' b vb) :
    Calls Tryd.prog 9 #[va, vb] w fun e w' => e = .returned (.bool (decide (a = b))) ∧ Below w.heap.size w w' := by
  obtain ⟨d, ha⟩ := ha
  obtain ⟨d', hb⟩ := hb
  have h1 := VIs.le (show d ≤ d + d' by omega) ha
  refine (rsame_all (d + d') w _ _ a b va vb h1 (VIs.le (by omega) hb)).mono ?_
  rintro e w' ⟨rfl, hb⟩
  refine ⟨?_, hb⟩
  congr 2
  rw [Bool.eq_iff_iff, sameS_iff _ a b (vis_deep _ h1)]; simp
end Go.Proofs.YtaifciobaapehaaDoor

/- A region that draws its order, and at its end writes the very cells that it read: loads may be taken first where whatever writes waits for them. -/
set_option linter.unusedSimpArgs false
set_option linter.unusedVariables false
namespace Go.Proofs.YtaifciobaapehaaDoor
open Go

section
variable {P : Program} {ops : Array Oper} {Q : Exit → Act → World → Prop} {md : Region.Mode} {S : World → Prop} {T : List Nat}

def untilB (T : List Nat) (listed : Array Bool) : Bool := T.all fun t => listed.getD t true == false
/- Whatever order is picked, and S holds behind each operation while none of T has come up. -/
def wpAnyT (P : Program) (md : Region.Mode) (ops : Array Oper) (Q : Exit → Act → World → Prop) (S : World → Prop) (T : List Nat) : Nat → Array Bool → Act → World → Prop
  | 0, listed, a, w => Region.ready md ops listed = [] ∧ Q .normal a w
  | fuel + 1, listed, a, w =>
    (Region.ready md ops listed = [] → Q .normal a w) ∧
    ∀ i ∈ Region.ready md ops listed, wpOp P ops Q i (fun a' w' => (untilB T (listed.setIfInBounds i true) = true → S w') ∧ wpAnyT P md ops Q S T fuel (listed.setIfInBounds i true) a' w') a w
theorem wpAny_of_T : ∀ (fuel : Nat) (listed : Array Bool) (a : Act) (w : World), wpAnyT P md ops Q S T fuel listed a w → wpAny P md ops Q fuel listed a w
  | 0, _, _, _, h => h
  | fuel + 1, _, _, _, h => ⟨h.1, fun i hi => wpOp_mono (fun a' w' h' => wpAny_of_T fuel _ a' w' h'.2) (h.2 i hi)⟩
theorem wpAnyT_of_any : ∀ (fuel : Nat) (listed : Array Bool) (a : Act) (w : World), untilB T listed = false → wpAny P md ops Q fuel listed a w → wpAnyT P md ops Q S T fuel listed a w
  | 0, _, _, _, _, h => h
  | fuel + 1, listed, _, _, hu, h => by
    refine ⟨h.1, fun i hi => wpOp_mono (fun a' w' h' => ?_) (h.2 i hi)⟩
    have hu' : untilB T (listed.setIfInBounds i true) = false := by
      unfold untilB at hu ⊢
      rw [List.all_eq_false] at hu ⊢
      obtain ⟨t, ht, h0⟩ := hu
      refine ⟨t, ht, ?_⟩
      by_cases e : i = t
      · subst e
        by_cases hs : i < listed.size
        · simp [Array.getD, hs]
        · simp [Array.getD, hs]
      · rw [getD_set_ne true e]; exact h0
    exact ⟨fun h => absurd h (by rw [hu']; simp), wpAnyT_of_any fuel _ a' w' hu' h'⟩
/- All of D wait for number i. -/
def behindB (md : Region.Mode) (ops : Array Oper) (listed : Array Bool) (i : Nat) (T D : List Nat) : Bool :=
  (D.all fun d => (match ops[d]? with | some o => o.after.any fun e => Region.binds md e && (e.on == i || D.contains e.on) | none => false) && listed.getD d true == false) && T.all fun t => D.contains t
theorem behind_not {listed : Array Bool} {i : Nat} {D : List Nat} (hD : ∀ d ∈ D, (∃ o, ops[d]? = some o ∧ ∃ e ∈ o.after, Region.binds md e = true ∧ (e.on = i ∨ e.on ∈ D)) ∧ listed.getD d true = false) (hi : listed.getD i true = false) {j : Nat} (hj : j ∈ Region.ready md ops listed) : j ∉ D := by
  intro hjD
  obtain ⟨⟨o, ho, e, he, hb, hon⟩, -⟩ := hD j hjD
  obtain ⟨-, oj, hoj, hall⟩ := mem_ready.1 hj
  rw [ho] at hoj
  cases hoj
  have h1 := hall e he hb
  have h0 : listed.getD e.on true = false := by
    rcases hon with h | h
    · rw [h]; exact hi
    · exact (hD _ h).2
  rcases Nat.lt_or_ge e.on listed.size with h' | h'
  · simp [h'] at h0 h1; rw [h0] at h1; cases h1
  · simp [Array.getElem?_eq_none h'] at h1
theorem until_of {listed : Array Bool} {i : Nat} {T D : List Nat} (hT : ∀ t ∈ T, t ∈ D) (hD : ∀ d ∈ D, listed.getD d true = false) (hi : i ∉ D) : untilB T (listed.setIfInBounds i true) = true := by
  unfold untilB
  rw [List.all_eq_true]
  intro t ht
  have : i ≠ t := fun e => hi (e ▸ hT t ht)
  rw [getD_set_ne true this, hD t (hT t ht)]; rfl
theorem wpAnyT_first {i : Nat} {oi : Oper} {v : Value} {D : List Nat} (hi : ops[i]? = some oi) (hsel : ∀ (j : Nat) (o : Oper) cs b, ops[j]? = some o → o.op ≠ .select cs b)
    (hQ : ∀ c a w, Q (.panic c) (a.put oi.dst v) w → Q (.panic c) a w) (hTD : ∀ t ∈ T, t ∈ D) :
    ∀ (fuel : Nat) (listed : Array Bool) (a : Act) (w : World),
      (∀ j oj, ops[j]? = some oj → j ≠ i → listed.getD j true = false → (∀ e ∈ oj.after, Region.binds md e = true → e.on ≠ i) → oi.apart ops oj = true) →
      (∀ d ∈ D, (∃ o, ops[d]? = some o ∧ ∃ e ∈ o.after, Region.binds md e = true ∧ (e.on = i ∨ e.on ∈ D)) ∧ listed.getD d true = false) →
      i ∈ Region.ready md ops listed → YieldsIf P ops S oi v a → S w →
      wpAnyT P md ops Q S T fuel (listed.setIfInBounds i true) (a.put oi.dst v) w → wpAnyT P md ops Q S T (fuel + 1) listed a w := by
  intro fuel
  induction fuel with
  | zero =>
    intro listed a w _ hD hr hy hS H
    refine ⟨fun h => (by rw [h] at hr; cases hr), fun j hj => ?_⟩
    by_cases hji : j = i
    · subst hji; exact hy.wpOp hi hS ⟨fun _ => hS, H⟩
    · have := ready_mono hj hji
      rw [H.1] at this
      cases this
  | succ fuel ih =>
    intro listed a w hfree hD hr hy hS H
    have hi0 : listed.getD i true = false := by
      obtain ⟨h0, -⟩ := mem_ready.1 hr
      exact h0
    refine ⟨fun h => (by rw [h] at hr; cases hr), fun j hj => ?_⟩
    by_cases hji : j = i
    · subst hji; exact hy.wpOp hi hS ⟨fun _ => hS, H⟩
    · have h1 := H.2 j (ready_mono hj hji)
      obtain ⟨hjun, oj, hoj, hall⟩ := mem_ready.1 hj
      have hnot : ∀ e ∈ oj.after, Region.binds md e = true → e.on ≠ i := fun e he hb heq => by
        have h1 := hall e he hb
        have h0 := (mem_ready.1 hr).1
        rw [heq] at h1
        rcases Nat.lt_or_ge i listed.size with h' | h'
        · simp [h'] at h0 h1; rw [h0] at h1; cases h1
        · simp [Array.getElem?_eq_none h'] at h1
      have hjD : j ∉ D := behind_not hD hi0 hj
      have hiD : i ∉ D := behind_not hD hi0 hr
      have h2 := wpOp_putIf hoj (hfree j oj hoj hji hjun hnot) (fun cs b => hsel i oi cs b hi) (fun cs b => hsel j oj cs b hoj) hQ hy h1
      have hfree' : ∀ k ok, ops[k]? = some ok → k ≠ i → (listed.setIfInBounds j true).getD k true = false →
          (∀ e ∈ ok.after, Region.binds md e = true → e.on ≠ i) → oi.apart ops ok = true := fun k ok hk hki hun hno => by
        refine hfree k ok hk hki ?_ hno
        by_cases hjk : j = k
        · subst hjk; exact hjun
        · rw [getD_set_ne true hjk] at hun; exact hun
      have hD' : ∀ d ∈ D, (∃ o, ops[d]? = some o ∧ ∃ e ∈ o.after, Region.binds md e = true ∧ (e.on = i ∨ e.on ∈ D)) ∧ (listed.setIfInBounds j true).getD d true = false := fun d hd => by
        refine ⟨(hD d hd).1, ?_⟩
        have : j ≠ d := fun e => hjD (e ▸ hd)
        rw [getD_set_ne true this]; exact (hD d hd).2
      have hu : untilB T (((listed.setIfInBounds i true)).setIfInBounds j true) = true := until_of hTD (fun d hd => by
        have : i ≠ d := fun e => hiD (e ▸ hd)
        rw [getD_set_ne true this]; exact (hD d hd).2) hjD
      refine wpOp_mono (fun a' w' h3 => ⟨fun _ => h3.2.1 hu, ih (listed.setIfInBounds j true) a' w' hfree' hD' (ready_mono hr (Ne.symm hji)) h3.1 (h3.2.1 hu) ?_⟩) h2
      rw [Array.setIfInBounds_comm _ _ hji]
      exact h3.2.2
/- Take number i first. -/
theorem wpAnyT_take {i : Nat} {oi : Oper} {v : Value} {fuel : Nat} {listed : Array Bool} {a : Act} {w : World} (D : List Nat) (hi : ops[i]? = some oi)
    (hs : Region.noSelect ops = true) (hf : Region.free md ops listed i = true) (hr : (Region.ready md ops listed).contains i = true) (hB : behindB md ops listed i T D = true)
    (hQ : ∀ c a w, Q (.panic c) (a.put oi.dst v) w → Q (.panic c) a w) (hy : YieldsIf P ops S oi v a) (hS : S w)
    (h : wpAnyT P md ops Q S T fuel (listed.setIfInBounds i true) (a.put oi.dst v) w) : wpAnyT P md ops Q S T (fuel + 1) listed a w := by
  unfold behindB at hB
  rw [Bool.and_eq_true, List.all_eq_true, List.all_eq_true] at hB
  refine wpAnyT_first (D := D) hi (Region.noSelect_spec hs) hQ (fun t ht => by simpa using hB.2 t ht) fuel listed a w (Region.free_spec hi hf) (fun d hd => ?_) (by simpa using hr) hy hS h
  have h1 := hB.1 d hd
  rw [Bool.and_eq_true] at h1
  refine ⟨?_, by simpa using h1.2⟩
  cases ho : ops[d]? with
  | none => rw [ho] at h1; simp at h1
  | some o =>
    rw [ho] at h1
    have h2 := h1.1
    simp only [Array.any_eq_true] at h2
    obtain ⟨k, hk, h3⟩ := h2
    refine ⟨o, rfl, o.after[k], Array.getElem_mem hk, ?_⟩
    simpa using h3
/- Each of rs comes up next. -/
def AllReadyT (P : Program) (md : Region.Mode) (ops : Array Oper) (Q : Exit → Act → World → Prop) (S : World → Prop) (T : List Nat) (fuel : Nat) (listed : Array Bool) (a : Act) (w : World) (rs : List Nat) : Prop :=
  ∀ i ∈ rs, wpOp P ops Q i (fun a' w' => (untilB T (listed.setIfInBounds i true) = true → S w') ∧ wpAnyT P md ops Q S T fuel (listed.setIfInBounds i true) a' w') a w
theorem AllReadyT.nil {fuel : Nat} {listed : Array Bool} {a : Act} {w : World} : AllReadyT P md ops Q S T fuel listed a w [] := fun _ h => by cases h
/- An operation ahead of T: S is shown anew, and handed on. -/
theorem AllReadyT.cons {fuel : Nat} {listed : Array Bool} {a : Act} {w : World} {i : Nat} {o : Oper} {rs : List Nat} (ho : ops[i]? = some o)
    (h : ∀ K' : Act → World → Prop, Shut (∀ a w, S w → (S w → wpAnyT P md ops Q S T fuel (listed.setIfInBounds i true) a w) → K' a w) → if Region.wanted o (yielded ops a.tmps) = true then Oper.wp P o a w K' Q else K' (a.put o.dst undef) w)
    (hs : AllReadyT P md ops Q S T fuel listed a w rs) : AllReadyT P md ops Q S T fuel listed a w (i :: rs) := fun j hj => by
  rcases List.mem_cons.1 hj with rfl | hj
  · exact wpOp_step ho (fun K' hK => h K' (fun a w hS hW => hK a w ⟨fun _ => hS, hW hS⟩))
  · exact hs j hj
theorem wpAnyT_ready {rs : List Nat} {fuel : Nat} {listed : Array Bool} {a : Act} {w : World} (hr : Region.ready md ops listed = rs) (hne : rs ≠ [])
    (h : AllReadyT P md ops Q S T fuel listed a w rs) : wpAnyT P md ops Q S T (fuel + 1) listed a w := ⟨fun h0 => absurd (hr ▸ h0) hne, hr ▸ h⟩
/- An operation of T, or behind it, that comes up alone. -/
theorem wpAnyT_last {i : Nat} {o : Oper} {fuel : Nat} {listed : Array Bool} {a : Act} {w : World} (hr : Region.ready md ops listed = [i]) (hu : untilB T (listed.setIfInBounds i true) = false) (ho : ops[i]? = some o)
    (h : ∀ K' : Act → World → Prop, Shut (∀ a w, wpAnyT P md ops Q S T fuel (listed.setIfInBounds i true) a w → K' a w) → if Region.wanted o (yielded ops a.tmps) = true then Oper.wp P o a w K' Q else K' (a.put o.dst undef) w) :
    wpAnyT P md ops Q S T (fuel + 1) listed a w := by
  refine ⟨fun h0 => (by rw [hr] at h0; cases h0), fun j hj => ?_⟩
  rw [hr, List.mem_singleton] at hj
  subst hj
  exact wpOp_step ho (fun K' hK => h K' (fun a w hW => hK a w ⟨fun h => absurd h (by rw [hu]; simp), hW⟩))
theorem wpAnyT_done {listed : Array Bool} {a : Act} {w : World} (hr : Region.ready md ops listed = []) (h : Q .normal a w) :
    ∀ fuel, wpAnyT P md ops Q S T fuel listed a w
  | 0 => ⟨hr, h⟩
  | _ + 1 => ⟨fun _ => h, by rw [hr]; simp⟩
theorem wp_region_T {id : Nat} {a : Act} {w : World} (S : World → Prop) (T : List Nat) (hm : P.follows .mixedOrders = true) (hS : S w.drew)
    (h : S w.drew → wpAnyT P .any ops Q S T ops.size (Array.replicate ops.size false) a w.drew) : (Code.region id ops true).wp P Q a w :=
  wp_region_any hm (wpAny_of_T _ _ _ _ (h hS))
end
end Go.Proofs.YtaifciobaapehaaDoor

/- A region that draws its order: what yields its value in whatever world is taken first, whatever waits. -/
set_option linter.unusedSimpArgs false
set_option linter.unusedVariables false
namespace Go.Proofs.YtaifciobaapehaaDoor
open Go

section
variable {P : Program} {ops : Array Oper} {Q : Exit → Act → World → Prop} {md : Region.Mode} {S : World → Prop} {T : List Nat}

theorem until_mono {listed : Array Bool} {i : Nat} {T : List Nat} (h : untilB T (listed.setIfInBounds i true) = true) : untilB T listed = true := by
  unfold untilB at h ⊢
  rw [List.all_eq_true] at h ⊢
  intro t ht
  have h0 := h t ht
  by_cases e : i = t
  · subst e
    by_cases hs : i < listed.size
    · simp [Array.getD, hs] at h0
    · simp [Array.getD, hs] at h0
  · rw [getD_set_ne true e] at h0; exact h0
theorem until_set {listed : Array Bool} {i : Nat} {T : List Nat} (hi : i ∉ T) (h : untilB T listed = true) : untilB T (listed.setIfInBounds i true) = true := by
  unfold untilB at h ⊢
  rw [List.all_eq_true] at h ⊢
  intro t ht
  have e : i ≠ t := fun e => hi (e ▸ ht)
  rw [getD_set_ne true e]; exact h t ht
/- What yields its value in whatever world is taken first whatever waits. -/
theorem wpAnyT_firstY {i : Nat} {oi : Oper} {v : Value} (hi : ops[i]? = some oi) (hsel : ∀ (j : Nat) (o : Oper) cs b, ops[j]? = some o → o.op ≠ .select cs b)
    (hQ : ∀ c a w, Q (.panic c) (a.put oi.dst v) w → Q (.panic c) a w) (hiT : i ∉ T) :
    ∀ (fuel : Nat) (listed : Array Bool) (a : Act) (w : World),
      (∀ j oj, ops[j]? = some oj → j ≠ i → listed.getD j true = false → (∀ e ∈ oj.after, Region.binds md e = true → e.on ≠ i) → oi.apart ops oj = true) →
      i ∈ Region.ready md ops listed → Yields P ops oi v a → (untilB T listed = true → S w) →
      wpAnyT P md ops Q S T fuel (listed.setIfInBounds i true) (a.put oi.dst v) w → wpAnyT P md ops Q S T (fuel + 1) listed a w := by
  intro fuel
  induction fuel with
  | zero =>
    intro listed a w _ hr hy hS H
    refine ⟨fun h => (by rw [h] at hr; cases hr), fun j hj => ?_⟩
    by_cases hji : j = i
    · subst hji; exact hy.wpOp hi ⟨fun h => hS (until_mono h), H⟩
    · have := ready_mono hj hji
      rw [H.1] at this
      cases this
  | succ fuel ih =>
    intro listed a w hfree hr hy hS H
    refine ⟨fun h => (by rw [h] at hr; cases hr), fun j hj => ?_⟩
    by_cases hji : j = i
    · subst hji; exact hy.wpOp hi ⟨fun h => hS (until_mono h), H⟩
    · have h1 := H.2 j (ready_mono hj hji)
      obtain ⟨hjun, oj, hoj, hall⟩ := mem_ready.1 hj
      have hnot : ∀ e ∈ oj.after, Region.binds md e = true → e.on ≠ i := fun e he hb heq => by
        have h1 := hall e he hb
        have h0 := (mem_ready.1 hr).1
        rw [heq] at h1
        rcases Nat.lt_or_ge i listed.size with h' | h'
        · simp [h'] at h0 h1; rw [h0] at h1; cases h1
        · simp [Array.getElem?_eq_none h'] at h1
      have h2 := wpOp_put hoj (hfree j oj hoj hji hjun hnot) (fun cs b => hsel i oi cs b hi) (fun cs b => hsel j oj cs b hoj) hQ hy h1
      have hfree' : ∀ k ok, ops[k]? = some ok → k ≠ i → (listed.setIfInBounds j true).getD k true = false →
          (∀ e ∈ ok.after, Region.binds md e = true → e.on ≠ i) → oi.apart ops ok = true := fun k ok hk hki hun hno => by
        refine hfree k ok hk hki ?_ hno
        by_cases hjk : j = k
        · subst hjk; exact hjun
        · rw [getD_set_ne true hjk] at hun; exact hun
      refine wpOp_mono (fun a' w' h3 => ?_) h2
      have hs : untilB T (listed.setIfInBounds j true) = true → S w' := fun h => h3.2.1 (by rw [Array.setIfInBounds_comm _ _ (Ne.symm hji)]; exact until_set hiT h)
      refine ⟨hs, ih (listed.setIfInBounds j true) a' w' hfree' (ready_mono hr (Ne.symm hji)) h3.1 hs ?_⟩
      rw [Array.setIfInBounds_comm _ _ hji]
      exact h3.2.2
theorem wpAnyT_takeY {i : Nat} {oi : Oper} {v : Value} {fuel : Nat} {listed : Array Bool} {a : Act} {w : World} (hi : ops[i]? = some oi)
    (hs : Region.noSelect ops = true) (hf : Region.free md ops listed i = true) (hr : (Region.ready md ops listed).contains i = true) (hT : T.contains i = false)
    (hQ : ∀ c a w, Q (.panic c) (a.put oi.dst v) w → Q (.panic c) a w) (hy : Yields P ops oi v a) (hS : S w)
    (h : wpAnyT P md ops Q S T fuel (listed.setIfInBounds i true) (a.put oi.dst v) w) : wpAnyT P md ops Q S T (fuel + 1) listed a w :=
  wpAnyT_firstY hi (Region.noSelect_spec hs) hQ (by simpa using hT) fuel listed a w (Region.free_spec hi hf) (by simpa using hr) hy (fun _ => hS) h
end
end Go.Proofs.YtaifciobaapehaaDoor

/- What SameOps of package stairwellref does, of equal lists. -/
set_option linter.unusedSimpArgs false
set_option linter.unusedVariables false
namespace Go.Proofs.YtaifciobaapehaaDoor
open Go.RowKit

theorem ops_at {w : World} {ok : Nat → Prop} {os : List OpT} {a : Option Addr} {n c k : Nat} (h : OpsAre w ok os (.slice a n c)) (hk : k < os.length) : ∃ b off, a = some ⟨b, off, none⟩ ∧ os.length ≤ c ∧ c ≤ 9223372036854775807 ∧ ∃ (a7 a8 : Option Addr) (c7 c8 : Nat), (w.cell? ⟨b, off + k * 8, none⟩ = some (.int .i64 os[k].kind) ∧ w.cell? ⟨b, off + k * 8 + 1, none⟩ = some (.string ⟨os[k].path.toArray⟩) ∧ w.cell? ⟨b, off + k * 8 + 2, none⟩ = some (.string ⟨os[k].frm.toArray⟩) ∧ w.cell? ⟨b, off + k * 8 + 3, none⟩ = some (.int .i64 os[k].value.kind) ∧ w.cell? ⟨b, off + k * 8 + 4, none⟩ = some (.int .i64 os[k].value.n) ∧ w.cell? ⟨b, off + k * 8 + 5, none⟩ = some (.string ⟨os[k].value.s.toArray⟩) ∧ w.cell? ⟨b, off + k * 8 + 6, none⟩ = some (.slice a7 os[k].value.keys.length c7) ∧ w.cell? ⟨b, off + k * 8 + 7, none⟩ = some (.slice a8 os[k].value.l.length c8)) ∧ In w ok os[k].value (.agg #[.int .i64 os[k].value.kind, .int .i64 os[k].value.n, .string ⟨os[k].value.s.toArray⟩, .slice a7 os[k].value.keys.length c7, .slice a8 os[k].value.l.length c8]) := by
  rcases h.2 with ⟨e, -⟩ | ⟨b, off, c', e, h1, h2, h3⟩
  · rw [e] at hk; simp at hk
  · simp only [Value.slice.injEq] at e
    obtain ⟨rfl, rfl, rfl⟩ := e
    obtain ⟨v0, v1, v2, v3, v4, v5, v6, v7, -, g0, g1, g2, g3, g4, g5, g6, g7, -, -, -, a7, a8, c7, c8, e, hi⟩ := h3 k os[k] (List.getElem?_eq_getElem hk)
    simp only [Value.agg.injEq, Array.mk.injEq, List.cons.injEq, and_true] at e
    obtain ⟨rfl, rfl, rfl, rfl, rfl, rfl, rfl, rfl⟩ := e
    exact ⟨b, off, rfl, h1, h2, a7, a8, c7, c8, ⟨g0, g1, g2, g3, g4, g5, g6, g7⟩, hi⟩
attribute [local go_sem ↓] Go.wp_at_zero Go.wp_at_succ
open Classical in
set_option maxRecDepth 100000 in
set_option maxHeartbeats 8000000 in
theorem rsameOps_at (w : World) (ok ok' : Nat → Prop) (os : List OpT) (v u : Value) (h : OpsAre w ok os v) (h2 : OpsAre w ok' os u) : Calls Tryd.prog 17 #[v, u] w fun e w' => e = .returned (.bool true) ∧ Below w.heap.size w w' := by
  obtain ⟨a, c, rfl⟩ := h.form
  obtain ⟨b, d, rfl⟩ := h2.form
  have H := hidI h
  have H2 := hidI h2
  have ll := h.1
  clear h h2
  go_enter Tryd.func17, Tryd.ntmps17
  go_wp2_with fail
  go_loopg [5, 13] os.length (fun gk _ i wr => ∃ k : Nat, k ≤ os.length ∧ Hid (gk = os.length - k) ∧ i = .int .i64 k ∧ Hid (Below w.heap.size w wr))
  case atStart => exact ⟨0, Nat.zero_le _, hidI rfl, rfl, hidI (Below.refl _ _)⟩
  case round =>
    obtain ⟨k, hk, GK, rfl, B1⟩ := hrel
    by_cases hlt : k < os.length
    · obtain ⟨xb, xo, rfl, j1, j2, a7, a8, c7, c8, q, hx⟩ := ops_at H.out hlt
      obtain ⟨yb, yo, rfl, j3, j4, b7, b8, d7, d8, r, hy⟩ := ops_at H2.out hlt
      have QQ := hidI q
      have RR := hidI r
      have HX := hidI hx
      have HY := hidI hy
      have w1 : (k : Int) < (os.length : Int) := by omega
      have w2 : (0 : Int) ≤ (k : Int) := by omega
      obtain ⟨z, hz⟩ : ∃ z, os[k] = z := ⟨_, rfl⟩
      rw [hz] at QQ RR HX HY
      clear q r hx hy hz
      go_upto_region 6 with fail
      refine wp_region_T (fun wS => Below w.heap.size w wS) [] (by kernel_rfl) (bel_trans B1.out (bel_drewN _ 1)) (fun hHeld => ?_)
      refine wpAnyT_take (i := 0) (v := ?_) [] (oi := { dst := some 16, op := Go.Op.move (Go.Operand.tmp 0), type := 35, pos := "high.go:11", after := #[], guard := none }) rfl (by kernel_rfl) (by kernel_rfl) (by kernel_rfl) (by kernel_rfl) (fun _ _ _ h => h) (Or.inl ⟨by rfl, ?_⟩) hHeld ?_
      rotate_left
      · intro wS hSw
        go_simp
        all_goals with_reducible rfl
      simp only [Act.put, List.setIfInBounds_toArray, List.set_cons_zero, List.set_cons_succ]
      refine wpAnyT_take (i := 1) (v := ?_) [] (oi := { dst := some 17, op := Go.Op.move (Go.Operand.tmp 5), type := 3, pos := "high.go:11", after := #[], guard := none }) rfl (by kernel_rfl) (by kernel_rfl) (by kernel_rfl) (by kernel_rfl) (fun _ _ _ h => h) (Or.inl ⟨by rfl, ?_⟩) hHeld ?_
      rotate_left
      · intro wS hSw
        go_simp
        all_goals with_reducible rfl
      simp only [Act.put, List.setIfInBounds_toArray, List.set_cons_zero, List.set_cons_succ]
      refine wpAnyT_take (i := 2) (v := ?_) [] (oi := { dst := some 18, op := Go.Op.indexAddr 35 (Go.Operand.tmp 16) (Go.Operand.tmp 17), type := 0, pos := "high.go:11", after := #[{ on := 0, ground := Go.Ground.data }, { on := 1, ground := Go.Ground.data }], guard := none }) rfl (by kernel_rfl) (by kernel_rfl) (by kernel_rfl) (by kernel_rfl) (fun _ _ _ h => h) (Or.inl ⟨by rfl, ?_⟩) hHeld ?_
      rotate_left
      · intro wS hSw
        go_simp
        all_goals with_reducible rfl
      simp only [Act.put, List.setIfInBounds_toArray, List.set_cons_zero, List.set_cons_succ]
      refine wpAnyT_take (i := 3) (v := ?_) [] (oi := { dst := some 19, op := Go.Op.fieldAddr 43 (Go.Operand.tmp 18) 0, type := 0, pos := "high.go:11", after := #[{ on := 2, ground := Go.Ground.data }], guard := none }) rfl (by kernel_rfl) (by kernel_rfl) (by kernel_rfl) (by kernel_rfl) (fun _ _ _ h => h) (Or.inl ⟨by rfl, ?_⟩) hHeld ?_
      rotate_left
      · intro wS hSw
        go_simp
        all_goals with_reducible rfl
      simp only [Act.put, List.setIfInBounds_toArray, List.set_cons_zero, List.set_cons_succ]
      refine wpAnyT_take (i := 4) (v := ?_) [] (oi := { dst := some 20, op := Go.Op.load 3 (Go.Operand.tmp 19), type := 3, pos := "high.go:11", after := #[{ on := 3, ground := Go.Ground.data }], guard := none }) rfl (by kernel_rfl) (by kernel_rfl) (by kernel_rfl) (by kernel_rfl) (fun _ _ _ h => h) (Or.inl ⟨by rfl, ?_⟩) hHeld ?_
      rotate_left
      · intro wS hSw
        obtain ⟨q0, q1, q2, q3, q4, q5, q6, q7⟩ := QQ.out
        obtain ⟨r0, r1, r2, r3, r4, r5, r6, r7⟩ := RR.out
        replace q0 := cell_bel hSw q0
        replace q1 := cell_bel hSw q1
        replace q2 := cell_bel hSw q2
        replace q3 := cell_bel hSw q3
        replace q4 := cell_bel hSw q4
        replace q5 := cell_bel hSw q5
        replace q6 := cell_bel hSw q6
        replace q7 := cell_bel hSw q7
        replace r0 := cell_bel hSw r0
        replace r1 := cell_bel hSw r1
        replace r2 := cell_bel hSw r2
        replace r3 := cell_bel hSw r3
        replace r4 := cell_bel hSw r4
        replace r5 := cell_bel hSw r5
        replace r6 := cell_bel hSw r6
        replace r7 := cell_bel hSw r7
        go_simp
        all_goals with_reducible rfl
      simp only [Act.put, List.setIfInBounds_toArray, List.set_cons_zero, List.set_cons_succ]
      refine wpAnyT_take (i := 5) (v := ?_) [] (oi := { dst := some 21, op := Go.Op.move (Go.Operand.tmp 1), type := 35, pos := "high.go:11", after := #[], guard := none }) rfl (by kernel_rfl) (by kernel_rfl) (by kernel_rfl) (by kernel_rfl) (fun _ _ _ h => h) (Or.inl ⟨by rfl, ?_⟩) hHeld ?_
      rotate_left
      · intro wS hSw
        go_simp
        all_goals with_reducible rfl
      simp only [Act.put, List.setIfInBounds_toArray, List.set_cons_zero, List.set_cons_succ]
      refine wpAnyT_take (i := 6) (v := ?_) [] (oi := { dst := some 22, op := Go.Op.move (Go.Operand.tmp 5), type := 3, pos := "high.go:11", after := #[], guard := none }) rfl (by kernel_rfl) (by kernel_rfl) (by kernel_rfl) (by kernel_rfl) (fun _ _ _ h => h) (Or.inl ⟨by rfl, ?_⟩) hHeld ?_
      rotate_left
      · intro wS hSw
        go_simp
        all_goals with_reducible rfl
      simp only [Act.put, List.setIfInBounds_toArray, List.set_cons_zero, List.set_cons_succ]
      refine wpAnyT_take (i := 7) (v := ?_) [] (oi := { dst := some 23, op := Go.Op.indexAddr 35 (Go.Operand.tmp 21) (Go.Operand.tmp 22), type := 0, pos := "high.go:11", after := #[{ on := 5, ground := Go.Ground.data }, { on := 6, ground := Go.Ground.data }], guard := none }) rfl (by kernel_rfl) (by kernel_rfl) (by kernel_rfl) (by kernel_rfl) (fun _ _ _ h => h) (Or.inl ⟨by rfl, ?_⟩) hHeld ?_
      rotate_left
      · intro wS hSw
        go_simp
        all_goals with_reducible rfl
      simp only [Act.put, List.setIfInBounds_toArray, List.set_cons_zero, List.set_cons_succ]
      refine wpAnyT_take (i := 8) (v := ?_) [] (oi := { dst := some 24, op := Go.Op.fieldAddr 43 (Go.Operand.tmp 23) 0, type := 0, pos := "high.go:11", after := #[{ on := 7, ground := Go.Ground.data }], guard := none }) rfl (by kernel_rfl) (by kernel_rfl) (by kernel_rfl) (by kernel_rfl) (fun _ _ _ h => h) (Or.inl ⟨by rfl, ?_⟩) hHeld ?_
      rotate_left
      · intro wS hSw
        go_simp
        all_goals with_reducible rfl
      simp only [Act.put, List.setIfInBounds_toArray, List.set_cons_zero, List.set_cons_succ]
      refine wpAnyT_take (i := 9) (v := ?_) [] (oi := { dst := some 25, op := Go.Op.load 3 (Go.Operand.tmp 24), type := 3, pos := "high.go:11", after := #[{ on := 8, ground := Go.Ground.data }], guard := none }) rfl (by kernel_rfl) (by kernel_rfl) (by kernel_rfl) (by kernel_rfl) (fun _ _ _ h => h) (Or.inl ⟨by rfl, ?_⟩) hHeld ?_
      rotate_left
      · intro wS hSw
        obtain ⟨q0, q1, q2, q3, q4, q5, q6, q7⟩ := QQ.out
        obtain ⟨r0, r1, r2, r3, r4, r5, r6, r7⟩ := RR.out
        replace q0 := cell_bel hSw q0
        replace q1 := cell_bel hSw q1
        replace q2 := cell_bel hSw q2
        replace q3 := cell_bel hSw q3
        replace q4 := cell_bel hSw q4
        replace q5 := cell_bel hSw q5
        replace q6 := cell_bel hSw q6
        replace q7 := cell_bel hSw q7
        replace r0 := cell_bel hSw r0
        replace r1 := cell_bel hSw r1
        replace r2 := cell_bel hSw r2
        replace r3 := cell_bel hSw r3
        replace r4 := cell_bel hSw r4
        replace r5 := cell_bel hSw r5
        replace r6 := cell_bel hSw r6
        replace r7 := cell_bel hSw r7
        go_simp
        all_goals with_reducible rfl
      simp only [Act.put, List.setIfInBounds_toArray, List.set_cons_zero, List.set_cons_succ]
      refine wpAnyT_take (i := 10) (v := ?_) [] (oi := { dst := some 26, op := Go.Op.binOp Go.BinOp.neq 3 (Go.Operand.tmp 20) (Go.Operand.tmp 25) 3, type := 4, pos := "high.go:11", after := #[{ on := 4, ground := Go.Ground.data }, { on := 9, ground := Go.Ground.data }], guard := none }) rfl (by kernel_rfl) (by kernel_rfl) (by kernel_rfl) (by kernel_rfl) (fun _ _ _ h => h) (Or.inl ⟨by rfl, ?_⟩) hHeld ?_
      rotate_left
      · intro wS hSw
        go_simp
        all_goals with_reducible rfl
      simp only [Act.put, List.setIfInBounds_toArray, List.set_cons_zero, List.set_cons_succ]
      refine wpAnyT_take (i := 11) (v := ?_) [] (oi := { dst := some 27, op := Go.Op.move (Go.Operand.tmp 26), type := 4, pos := "high.go:11", after := #[{ on := 10, ground := Go.Ground.data }], guard := none }) rfl (by kernel_rfl) (by kernel_rfl) (by kernel_rfl) (by kernel_rfl) (fun _ _ _ h => h) (Or.inl ⟨by rfl, ?_⟩) hHeld ?_
      rotate_left
      · intro wS hSw
        go_simp
        all_goals with_reducible rfl
      simp only [Act.put, List.setIfInBounds_toArray, List.set_cons_zero, List.set_cons_succ]
      refine wpAnyT_take (i := 12) (v := ?_) [] (oi := { dst := some 28, op := Go.Op.move (Go.Operand.tmp 0), type := 35, pos := "high.go:11", after := #[{ on := 11, ground := Go.Ground.guard }], guard := some (11, false) }) rfl (by kernel_rfl) (by kernel_rfl) (by kernel_rfl) (by kernel_rfl) (fun _ _ _ h => h) (Or.inl ⟨by rfl, ?_⟩) hHeld ?_
      rotate_left
      · intro wS hSw
        go_simp
        all_goals with_reducible rfl
      simp only [Act.put, List.setIfInBounds_toArray, List.set_cons_zero, List.set_cons_succ]
      refine wpAnyT_take (i := 13) (v := ?_) [] (oi := { dst := some 29, op := Go.Op.move (Go.Operand.tmp 5), type := 3, pos := "high.go:11", after := #[{ on := 11, ground := Go.Ground.guard }], guard := some (11, false) }) rfl (by kernel_rfl) (by kernel_rfl) (by kernel_rfl) (by kernel_rfl) (fun _ _ _ h => h) (Or.inl ⟨by rfl, ?_⟩) hHeld ?_
      rotate_left
      · intro wS hSw
        go_simp
        all_goals with_reducible rfl
      simp only [Act.put, List.setIfInBounds_toArray, List.set_cons_zero, List.set_cons_succ]
      refine wpAnyT_take (i := 14) (v := ?_) [] (oi := { dst := some 30, op := Go.Op.indexAddr 35 (Go.Operand.tmp 28) (Go.Operand.tmp 29), type := 0, pos := "high.go:11", after := #[{ on := 12, ground := Go.Ground.data }, { on := 13, ground := Go.Ground.data }, { on := 11, ground := Go.Ground.guard }], guard := some (11, false) }) rfl (by kernel_rfl) (by kernel_rfl) (by kernel_rfl) (by kernel_rfl) (fun _ _ _ h => h) (Or.inl ⟨by rfl, ?_⟩) hHeld ?_
      rotate_left
      · intro wS hSw
        go_simp
        all_goals with_reducible rfl
      simp only [Act.put, List.setIfInBounds_toArray, List.set_cons_zero, List.set_cons_succ]
      refine wpAnyT_take (i := 15) (v := ?_) [] (oi := { dst := some 31, op := Go.Op.fieldAddr 43 (Go.Operand.tmp 30) 1, type := 0, pos := "high.go:11", after := #[{ on := 14, ground := Go.Ground.data }, { on := 11, ground := Go.Ground.guard }], guard := some (11, false) }) rfl (by kernel_rfl) (by kernel_rfl) (by kernel_rfl) (by kernel_rfl) (fun _ _ _ h => h) (Or.inl ⟨by rfl, ?_⟩) hHeld ?_
      rotate_left
      · intro wS hSw
        go_simp
        all_goals with_reducible rfl
      simp only [Act.put, List.setIfInBounds_toArray, List.set_cons_zero, List.set_cons_succ]
      refine wpAnyT_take (i := 16) (v := ?_) [] (oi := { dst := some 32, op := Go.Op.load 9 (Go.Operand.tmp 31), type := 9, pos := "high.go:11", after := #[{ on := 15, ground := Go.Ground.data }, { on := 11, ground := Go.Ground.guard }], guard := some (11, false) }) rfl (by kernel_rfl) (by kernel_rfl) (by kernel_rfl) (by kernel_rfl) (fun _ _ _ h => h) (Or.inl ⟨by rfl, ?_⟩) hHeld ?_
      rotate_left
      · intro wS hSw
        obtain ⟨q0, q1, q2, q3, q4, q5, q6, q7⟩ := QQ.out
        obtain ⟨r0, r1, r2, r3, r4, r5, r6, r7⟩ := RR.out
        replace q0 := cell_bel hSw q0
        replace q1 := cell_bel hSw q1
        replace q2 := cell_bel hSw q2
        replace q3 := cell_bel hSw q3
        replace q4 := cell_bel hSw q4
        replace q5 := cell_bel hSw q5
        replace q6 := cell_bel hSw q6
        replace q7 := cell_bel hSw q7
        replace r0 := cell_bel hSw r0
        replace r1 := cell_bel hSw r1
        replace r2 := cell_bel hSw r2
        replace r3 := cell_bel hSw r3
        replace r4 := cell_bel hSw r4
        replace r5 := cell_bel hSw r5
        replace r6 := cell_bel hSw r6
        replace r7 := cell_bel hSw r7
        go_simp
        all_goals with_reducible rfl
      simp only [Act.put, List.setIfInBounds_toArray, List.set_cons_zero, List.set_cons_succ]
      refine wpAnyT_take (i := 17) (v := ?_) [] (oi := { dst := some 33, op := Go.Op.move (Go.Operand.tmp 1), type := 35, pos := "high.go:11", after := #[{ on := 11, ground := Go.Ground.guard }], guard := some (11, false) }) rfl (by kernel_rfl) (by kernel_rfl) (by kernel_rfl) (by kernel_rfl) (fun _ _ _ h => h) (Or.inl ⟨by rfl, ?_⟩) hHeld ?_
      rotate_left
      · intro wS hSw
        go_simp
        all_goals with_reducible rfl
      simp only [Act.put, List.setIfInBounds_toArray, List.set_cons_zero, List.set_cons_succ]
      refine wpAnyT_take (i := 18) (v := ?_) [] (oi := { dst := some 34, op := Go.Op.move (Go.Operand.tmp 5), type := 3, pos := "high.go:11", after := #[{ on := 11, ground := Go.Ground.guard }], guard := some (11, false) }) rfl (by kernel_rfl) (by kernel_rfl) (by kernel_rfl) (by kernel_rfl) (fun _ _ _ h => h) (Or.inl ⟨by rfl, ?_⟩) hHeld ?_
      rotate_left
      · intro wS hSw
        go_simp
        all_goals with_reducible rfl
      simp only [Act.put, List.setIfInBounds_toArray, List.set_cons_zero, List.set_cons_succ]
      refine wpAnyT_take (i := 19) (v := ?_) [] (oi := { dst := some 35, op := Go.Op.indexAddr 35 (Go.Operand.tmp 33) (Go.Operand.tmp 34), type := 0, pos := "high.go:11", after := #[{ on := 17, ground := Go.Ground.data }, { on := 18, ground := Go.Ground.data }, { on := 11, ground := Go.Ground.guard }], guard := some (11, false) }) rfl (by kernel_rfl) (by kernel_rfl) (by kernel_rfl) (by kernel_rfl) (fun _ _ _ h => h) (Or.inl ⟨by rfl, ?_⟩) hHeld ?_
      rotate_left
      · intro wS hSw
        go_simp
        all_goals with_reducible rfl
      simp only [Act.put, List.setIfInBounds_toArray, List.set_cons_zero, List.set_cons_succ]
      refine wpAnyT_take (i := 20) (v := ?_) [] (oi := { dst := some 36, op := Go.Op.fieldAddr 43 (Go.Operand.tmp 35) 1, type := 0, pos := "high.go:11", after := #[{ on := 19, ground := Go.Ground.data }, { on := 11, ground := Go.Ground.guard }], guard := some (11, false) }) rfl (by kernel_rfl) (by kernel_rfl) (by kernel_rfl) (by kernel_rfl) (fun _ _ _ h => h) (Or.inl ⟨by rfl, ?_⟩) hHeld ?_
      rotate_left
      · intro wS hSw
        go_simp
        all_goals with_reducible rfl
      simp only [Act.put, List.setIfInBounds_toArray, List.set_cons_zero, List.set_cons_succ]
      refine wpAnyT_take (i := 21) (v := ?_) [] (oi := { dst := some 37, op := Go.Op.load 9 (Go.Operand.tmp 36), type := 9, pos := "high.go:11", after := #[{ on := 20, ground := Go.Ground.data }, { on := 11, ground := Go.Ground.guard }], guard := some (11, false) }) rfl (by kernel_rfl) (by kernel_rfl) (by kernel_rfl) (by kernel_rfl) (fun _ _ _ h => h) (Or.inl ⟨by rfl, ?_⟩) hHeld ?_
      rotate_left
      · intro wS hSw
        obtain ⟨q0, q1, q2, q3, q4, q5, q6, q7⟩ := QQ.out
        obtain ⟨r0, r1, r2, r3, r4, r5, r6, r7⟩ := RR.out
        replace q0 := cell_bel hSw q0
        replace q1 := cell_bel hSw q1
        replace q2 := cell_bel hSw q2
        replace q3 := cell_bel hSw q3
        replace q4 := cell_bel hSw q4
        replace q5 := cell_bel hSw q5
        replace q6 := cell_bel hSw q6
        replace q7 := cell_bel hSw q7
        replace r0 := cell_bel hSw r0
        replace r1 := cell_bel hSw r1
        replace r2 := cell_bel hSw r2
        replace r3 := cell_bel hSw r3
        replace r4 := cell_bel hSw r4
        replace r5 := cell_bel hSw r5
        replace r6 := cell_bel hSw r6
        replace r7 := cell_bel hSw r7
        go_simp
        all_goals with_reducible rfl
      simp only [Act.put, List.setIfInBounds_toArray, List.set_cons_zero, List.set_cons_succ]
      refine wpAnyT_take (i := 22) (v := ?_) [] (oi := { dst := some 38, op := Go.Op.binOp Go.BinOp.neq 9 (Go.Operand.tmp 32) (Go.Operand.tmp 37) 9, type := 4, pos := "high.go:11", after := #[{ on := 16, ground := Go.Ground.data }, { on := 21, ground := Go.Ground.data }, { on := 11, ground := Go.Ground.guard }], guard := some (11, false) }) rfl (by kernel_rfl) (by kernel_rfl) (by kernel_rfl) (by kernel_rfl) (fun _ _ _ h => h) (Or.inl ⟨by rfl, ?_⟩) hHeld ?_
      rotate_left
      · intro wS hSw
        go_simp
        all_goals with_reducible rfl
      simp only [Act.put, List.setIfInBounds_toArray, List.set_cons_zero, List.set_cons_succ]
      refine wpAnyT_take (i := 23) (v := ?_) [] (oi := { dst := some 39, op := Go.Op.pick (Go.Operand.tmp 27) (Go.Operand.const (Go.Value.bool true)) (Go.Operand.tmp 38), type := 4, pos := "high.go:11", after := #[{ on := 11, ground := Go.Ground.data }, { on := 22, ground := Go.Ground.data }], guard := none }) rfl (by kernel_rfl) (by kernel_rfl) (by kernel_rfl) (by kernel_rfl) (fun _ _ _ h => h) (Or.inl ⟨by rfl, ?_⟩) hHeld ?_
      rotate_left
      · intro wS hSw
        go_simp
        all_goals with_reducible rfl
      simp only [Act.put, List.setIfInBounds_toArray, List.set_cons_zero, List.set_cons_succ]
      refine wpAnyT_take (i := 24) (v := ?_) [] (oi := { dst := some 40, op := Go.Op.move (Go.Operand.tmp 39), type := 4, pos := "high.go:11", after := #[{ on := 23, ground := Go.Ground.data }, { on := 11, ground := Go.Ground.chain }], guard := none }) rfl (by kernel_rfl) (by kernel_rfl) (by kernel_rfl) (by kernel_rfl) (fun _ _ _ h => h) (Or.inl ⟨by rfl, ?_⟩) hHeld ?_
      rotate_left
      · intro wS hSw
        go_simp
        all_goals with_reducible rfl
      simp only [Act.put, List.setIfInBounds_toArray, List.set_cons_zero, List.set_cons_succ]
      refine wpAnyT_take (i := 25) (v := ?_) [] (oi := { dst := some 41, op := Go.Op.move (Go.Operand.tmp 0), type := 35, pos := "high.go:11", after := #[{ on := 24, ground := Go.Ground.guard }], guard := some (24, false) }) rfl (by kernel_rfl) (by kernel_rfl) (by kernel_rfl) (by kernel_rfl) (fun _ _ _ h => h) (Or.inl ⟨by rfl, ?_⟩) hHeld ?_
      rotate_left
      · intro wS hSw
        go_simp
        all_goals with_reducible rfl
      simp only [Act.put, List.setIfInBounds_toArray, List.set_cons_zero, List.set_cons_succ]
      refine wpAnyT_take (i := 26) (v := ?_) [] (oi := { dst := some 42, op := Go.Op.move (Go.Operand.tmp 5), type := 3, pos := "high.go:11", after := #[{ on := 24, ground := Go.Ground.guard }], guard := some (24, false) }) rfl (by kernel_rfl) (by kernel_rfl) (by kernel_rfl) (by kernel_rfl) (fun _ _ _ h => h) (Or.inl ⟨by rfl, ?_⟩) hHeld ?_
      rotate_left
      · intro wS hSw
        go_simp
        all_goals with_reducible rfl
      simp only [Act.put, List.setIfInBounds_toArray, List.set_cons_zero, List.set_cons_succ]
      refine wpAnyT_take (i := 27) (v := ?_) [] (oi := { dst := some 43, op := Go.Op.indexAddr 35 (Go.Operand.tmp 41) (Go.Operand.tmp 42), type := 0, pos := "high.go:11", after := #[{ on := 25, ground := Go.Ground.data }, { on := 26, ground := Go.Ground.data }, { on := 24, ground := Go.Ground.guard }], guard := some (24, false) }) rfl (by kernel_rfl) (by kernel_rfl) (by kernel_rfl) (by kernel_rfl) (fun _ _ _ h => h) (Or.inl ⟨by rfl, ?_⟩) hHeld ?_
      rotate_left
      · intro wS hSw
        go_simp
        all_goals with_reducible rfl
      simp only [Act.put, List.setIfInBounds_toArray, List.set_cons_zero, List.set_cons_succ]
      refine wpAnyT_take (i := 28) (v := ?_) [] (oi := { dst := some 44, op := Go.Op.fieldAddr 43 (Go.Operand.tmp 43) 2, type := 0, pos := "high.go:11", after := #[{ on := 27, ground := Go.Ground.data }, { on := 24, ground := Go.Ground.guard }], guard := some (24, false) }) rfl (by kernel_rfl) (by kernel_rfl) (by kernel_rfl) (by kernel_rfl) (fun _ _ _ h => h) (Or.inl ⟨by rfl, ?_⟩) hHeld ?_
      rotate_left
      · intro wS hSw
        go_simp
        all_goals with_reducible rfl
      simp only [Act.put, List.setIfInBounds_toArray, List.set_cons_zero, List.set_cons_succ]
      refine wpAnyT_take (i := 29) (v := ?_) [] (oi := { dst := some 45, op := Go.Op.load 9 (Go.Operand.tmp 44), type := 9, pos := "high.go:11", after := #[{ on := 28, ground := Go.Ground.data }, { on := 24, ground := Go.Ground.guard }], guard := some (24, false) }) rfl (by kernel_rfl) (by kernel_rfl) (by kernel_rfl) (by kernel_rfl) (fun _ _ _ h => h) (Or.inl ⟨by rfl, ?_⟩) hHeld ?_
      rotate_left
      · intro wS hSw
        obtain ⟨q0, q1, q2, q3, q4, q5, q6, q7⟩ := QQ.out
        obtain ⟨r0, r1, r2, r3, r4, r5, r6, r7⟩ := RR.out
        replace q0 := cell_bel hSw q0
        replace q1 := cell_bel hSw q1
        replace q2 := cell_bel hSw q2
        replace q3 := cell_bel hSw q3
        replace q4 := cell_bel hSw q4
        replace q5 := cell_bel hSw q5
        replace q6 := cell_bel hSw q6
        replace q7 := cell_bel hSw q7
        replace r0 := cell_bel hSw r0
        replace r1 := cell_bel hSw r1
        replace r2 := cell_bel hSw r2
        replace r3 := cell_bel hSw r3
        replace r4 := cell_bel hSw r4
        replace r5 := cell_bel hSw r5
        replace r6 := cell_bel hSw r6
        replace r7 := cell_bel hSw r7
        go_simp
        all_goals with_reducible rfl
      simp only [Act.put, List.setIfInBounds_toArray, List.set_cons_zero, List.set_cons_succ]
      refine wpAnyT_take (i := 30) (v := ?_) [] (oi := { dst := some 46, op := Go.Op.move (Go.Operand.tmp 1), type := 35, pos := "high.go:11", after := #[{ on := 24, ground := Go.Ground.guard }], guard := some (24, false) }) rfl (by kernel_rfl) (by kernel_rfl) (by kernel_rfl) (by kernel_rfl) (fun _ _ _ h => h) (Or.inl ⟨by rfl, ?_⟩) hHeld ?_
      rotate_left
      · intro wS hSw
        go_simp
        all_goals with_reducible rfl
      simp only [Act.put, List.setIfInBounds_toArray, List.set_cons_zero, List.set_cons_succ]
      refine wpAnyT_take (i := 31) (v := ?_) [] (oi := { dst := some 47, op := Go.Op.move (Go.Operand.tmp 5), type := 3, pos := "high.go:11", after := #[{ on := 24, ground := Go.Ground.guard }], guard := some (24, false) }) rfl (by kernel_rfl) (by kernel_rfl) (by kernel_rfl) (by kernel_rfl) (fun _ _ _ h => h) (Or.inl ⟨by rfl, ?_⟩) hHeld ?_
      rotate_left
      · intro wS hSw
        go_simp
        all_goals with_reducible rfl
      simp only [Act.put, List.setIfInBounds_toArray, List.set_cons_zero, List.set_cons_succ]
      refine wpAnyT_take (i := 32) (v := ?_) [] (oi := { dst := some 48, op := Go.Op.indexAddr 35 (Go.Operand.tmp 46) (Go.Operand.tmp 47), type := 0, pos := "high.go:11", after := #[{ on := 30, ground := Go.Ground.data }, { on := 31, ground := Go.Ground.data }, { on := 24, ground := Go.Ground.guard }], guard := some (24, false) }) rfl (by kernel_rfl) (by kernel_rfl) (by kernel_rfl) (by kernel_rfl) (fun _ _ _ h => h) (Or.inl ⟨by rfl, ?_⟩) hHeld ?_
      rotate_left
      · intro wS hSw
        go_simp
        all_goals with_reducible rfl
      simp only [Act.put, List.setIfInBounds_toArray, List.set_cons_zero, List.set_cons_succ]
      refine wpAnyT_take (i := 33) (v := ?_) [] (oi := { dst := some 49, op := Go.Op.fieldAddr 43 (Go.Operand.tmp 48) 2, type := 0, pos := "high.go:11", after := #[{ on := 32, ground := Go.Ground.data }, { on := 24, ground := Go.Ground.guard }], guard := some (24, false) }) rfl (by kernel_rfl) (by kernel_rfl) (by kernel_rfl) (by kernel_rfl) (fun _ _ _ h => h) (Or.inl ⟨by rfl, ?_⟩) hHeld ?_
      rotate_left
      · intro wS hSw
        go_simp
        all_goals with_reducible rfl
      simp only [Act.put, List.setIfInBounds_toArray, List.set_cons_zero, List.set_cons_succ]
      refine wpAnyT_take (i := 34) (v := ?_) [] (oi := { dst := some 50, op := Go.Op.load 9 (Go.Operand.tmp 49), type := 9, pos := "high.go:11", after := #[{ on := 33, ground := Go.Ground.data }, { on := 24, ground := Go.Ground.guard }], guard := some (24, false) }) rfl (by kernel_rfl) (by kernel_rfl) (by kernel_rfl) (by kernel_rfl) (fun _ _ _ h => h) (Or.inl ⟨by rfl, ?_⟩) hHeld ?_
      rotate_left
      · intro wS hSw
        obtain ⟨q0, q1, q2, q3, q4, q5, q6, q7⟩ := QQ.out
        obtain ⟨r0, r1, r2, r3, r4, r5, r6, r7⟩ := RR.out
        replace q0 := cell_bel hSw q0
        replace q1 := cell_bel hSw q1
        replace q2 := cell_bel hSw q2
        replace q3 := cell_bel hSw q3
        replace q4 := cell_bel hSw q4
        replace q5 := cell_bel hSw q5
        replace q6 := cell_bel hSw q6
        replace q7 := cell_bel hSw q7
        replace r0 := cell_bel hSw r0
        replace r1 := cell_bel hSw r1
        replace r2 := cell_bel hSw r2
        replace r3 := cell_bel hSw r3
        replace r4 := cell_bel hSw r4
        replace r5 := cell_bel hSw r5
        replace r6 := cell_bel hSw r6
        replace r7 := cell_bel hSw r7
        go_simp
        all_goals with_reducible rfl
      simp only [Act.put, List.setIfInBounds_toArray, List.set_cons_zero, List.set_cons_succ]
      refine wpAnyT_take (i := 35) (v := ?_) [] (oi := { dst := some 51, op := Go.Op.binOp Go.BinOp.neq 9 (Go.Operand.tmp 45) (Go.Operand.tmp 50) 9, type := 4, pos := "high.go:11", after := #[{ on := 29, ground := Go.Ground.data }, { on := 34, ground := Go.Ground.data }, { on := 24, ground := Go.Ground.guard }], guard := some (24, false) }) rfl (by kernel_rfl) (by kernel_rfl) (by kernel_rfl) (by kernel_rfl) (fun _ _ _ h => h) (Or.inl ⟨by rfl, ?_⟩) hHeld ?_
      rotate_left
      · intro wS hSw
        go_simp
        all_goals with_reducible rfl
      simp only [Act.put, List.setIfInBounds_toArray, List.set_cons_zero, List.set_cons_succ]
      refine wpAnyT_take (i := 36) (v := ?_) [] (oi := { dst := some 52, op := Go.Op.pick (Go.Operand.tmp 40) (Go.Operand.const (Go.Value.bool true)) (Go.Operand.tmp 51), type := 4, pos := "high.go:11", after := #[{ on := 24, ground := Go.Ground.data }, { on := 35, ground := Go.Ground.data }], guard := none }) rfl (by kernel_rfl) (by kernel_rfl) (by kernel_rfl) (by kernel_rfl) (fun _ _ _ h => h) (Or.inl ⟨by rfl, ?_⟩) hHeld ?_
      rotate_left
      · intro wS hSw
        go_simp
        all_goals with_reducible rfl
      simp only [Act.put, List.setIfInBounds_toArray, List.set_cons_zero, List.set_cons_succ]
      refine wpAnyT_take (i := 37) (v := ?_) [] (oi := { dst := some 53, op := Go.Op.move (Go.Operand.tmp 52), type := 4, pos := "high.go:11", after := #[{ on := 36, ground := Go.Ground.data }, { on := 24, ground := Go.Ground.chain }], guard := none }) rfl (by kernel_rfl) (by kernel_rfl) (by kernel_rfl) (by kernel_rfl) (fun _ _ _ h => h) (Or.inl ⟨by rfl, ?_⟩) hHeld ?_
      rotate_left
      · intro wS hSw
        go_simp
        all_goals with_reducible rfl
      simp only [Act.put, List.setIfInBounds_toArray, List.set_cons_zero, List.set_cons_succ]
      refine wpAnyT_take (i := 38) (v := ?_) [] (oi := { dst := some 54, op := Go.Op.move (Go.Operand.tmp 0), type := 35, pos := "high.go:11", after := #[{ on := 37, ground := Go.Ground.guard }], guard := some (37, false) }) rfl (by kernel_rfl) (by kernel_rfl) (by kernel_rfl) (by kernel_rfl) (fun _ _ _ h => h) (Or.inl ⟨by rfl, ?_⟩) hHeld ?_
      rotate_left
      · intro wS hSw
        go_simp
        all_goals with_reducible rfl
      simp only [Act.put, List.setIfInBounds_toArray, List.set_cons_zero, List.set_cons_succ]
      refine wpAnyT_take (i := 39) (v := ?_) [] (oi := { dst := some 55, op := Go.Op.move (Go.Operand.tmp 5), type := 3, pos := "high.go:11", after := #[{ on := 37, ground := Go.Ground.guard }], guard := some (37, false) }) rfl (by kernel_rfl) (by kernel_rfl) (by kernel_rfl) (by kernel_rfl) (fun _ _ _ h => h) (Or.inl ⟨by rfl, ?_⟩) hHeld ?_
      rotate_left
      · intro wS hSw
        go_simp
        all_goals with_reducible rfl
      simp only [Act.put, List.setIfInBounds_toArray, List.set_cons_zero, List.set_cons_succ]
      refine wpAnyT_take (i := 40) (v := ?_) [] (oi := { dst := some 56, op := Go.Op.indexAddr 35 (Go.Operand.tmp 54) (Go.Operand.tmp 55), type := 0, pos := "high.go:11", after := #[{ on := 38, ground := Go.Ground.data }, { on := 39, ground := Go.Ground.data }, { on := 37, ground := Go.Ground.guard }], guard := some (37, false) }) rfl (by kernel_rfl) (by kernel_rfl) (by kernel_rfl) (by kernel_rfl) (fun _ _ _ h => h) (Or.inl ⟨by rfl, ?_⟩) hHeld ?_
      rotate_left
      · intro wS hSw
        go_simp
        all_goals with_reducible rfl
      simp only [Act.put, List.setIfInBounds_toArray, List.set_cons_zero, List.set_cons_succ]
      refine wpAnyT_take (i := 41) (v := ?_) [] (oi := { dst := some 57, op := Go.Op.fieldAddr 43 (Go.Operand.tmp 56) 3, type := 0, pos := "high.go:11", after := #[{ on := 40, ground := Go.Ground.data }, { on := 37, ground := Go.Ground.guard }], guard := some (37, false) }) rfl (by kernel_rfl) (by kernel_rfl) (by kernel_rfl) (by kernel_rfl) (fun _ _ _ h => h) (Or.inl ⟨by rfl, ?_⟩) hHeld ?_
      rotate_left
      · intro wS hSw
        go_simp
        all_goals with_reducible rfl
      simp only [Act.put, List.setIfInBounds_toArray, List.set_cons_zero, List.set_cons_succ]
      refine wpAnyT_take (i := 42) (v := ?_) [] (oi := { dst := some 58, op := Go.Op.load 25 (Go.Operand.tmp 57), type := 25, pos := "high.go:11", after := #[{ on := 41, ground := Go.Ground.data }, { on := 37, ground := Go.Ground.guard }], guard := some (37, false) }) rfl (by kernel_rfl) (by kernel_rfl) (by kernel_rfl) (by kernel_rfl) (fun _ _ _ h => h) (Or.inl ⟨by rfl, ?_⟩) hHeld ?_
      rotate_left
      · intro wS hSw
        obtain ⟨q0, q1, q2, q3, q4, q5, q6, q7⟩ := QQ.out
        obtain ⟨r0, r1, r2, r3, r4, r5, r6, r7⟩ := RR.out
        replace q0 := cell_bel hSw q0
        replace q1 := cell_bel hSw q1
        replace q2 := cell_bel hSw q2
        replace q3 := cell_bel hSw q3
        replace q4 := cell_bel hSw q4
        replace q5 := cell_bel hSw q5
        replace q6 := cell_bel hSw q6
        replace q7 := cell_bel hSw q7
        replace r0 := cell_bel hSw r0
        replace r1 := cell_bel hSw r1
        replace r2 := cell_bel hSw r2
        replace r3 := cell_bel hSw r3
        replace r4 := cell_bel hSw r4
        replace r5 := cell_bel hSw r5
        replace r6 := cell_bel hSw r6
        replace r7 := cell_bel hSw r7
        go_simp
        all_goals with_reducible rfl
      simp only [Act.put, List.setIfInBounds_toArray, List.set_cons_zero, List.set_cons_succ]
      refine wpAnyT_take (i := 43) (v := ?_) [] (oi := { dst := some 59, op := Go.Op.move (Go.Operand.tmp 1), type := 35, pos := "high.go:11", after := #[{ on := 37, ground := Go.Ground.guard }], guard := some (37, false) }) rfl (by kernel_rfl) (by kernel_rfl) (by kernel_rfl) (by kernel_rfl) (fun _ _ _ h => h) (Or.inl ⟨by rfl, ?_⟩) hHeld ?_
      rotate_left
      · intro wS hSw
        go_simp
        all_goals with_reducible rfl
      simp only [Act.put, List.setIfInBounds_toArray, List.set_cons_zero, List.set_cons_succ]
      refine wpAnyT_take (i := 44) (v := ?_) [] (oi := { dst := some 60, op := Go.Op.move (Go.Operand.tmp 5), type := 3, pos := "high.go:11", after := #[{ on := 37, ground := Go.Ground.guard }], guard := some (37, false) }) rfl (by kernel_rfl) (by kernel_rfl) (by kernel_rfl) (by kernel_rfl) (fun _ _ _ h => h) (Or.inl ⟨by rfl, ?_⟩) hHeld ?_
      rotate_left
      · intro wS hSw
        go_simp
        all_goals with_reducible rfl
      simp only [Act.put, List.setIfInBounds_toArray, List.set_cons_zero, List.set_cons_succ]
      refine wpAnyT_take (i := 45) (v := ?_) [] (oi := { dst := some 61, op := Go.Op.indexAddr 35 (Go.Operand.tmp 59) (Go.Operand.tmp 60), type := 0, pos := "high.go:11", after := #[{ on := 43, ground := Go.Ground.data }, { on := 44, ground := Go.Ground.data }, { on := 37, ground := Go.Ground.guard }], guard := some (37, false) }) rfl (by kernel_rfl) (by kernel_rfl) (by kernel_rfl) (by kernel_rfl) (fun _ _ _ h => h) (Or.inl ⟨by rfl, ?_⟩) hHeld ?_
      rotate_left
      · intro wS hSw
        go_simp
        all_goals with_reducible rfl
      simp only [Act.put, List.setIfInBounds_toArray, List.set_cons_zero, List.set_cons_succ]
      refine wpAnyT_take (i := 46) (v := ?_) [] (oi := { dst := some 62, op := Go.Op.fieldAddr 43 (Go.Operand.tmp 61) 3, type := 0, pos := "high.go:11", after := #[{ on := 45, ground := Go.Ground.data }, { on := 37, ground := Go.Ground.guard }], guard := some (37, false) }) rfl (by kernel_rfl) (by kernel_rfl) (by kernel_rfl) (by kernel_rfl) (fun _ _ _ h => h) (Or.inl ⟨by rfl, ?_⟩) hHeld ?_
      rotate_left
      · intro wS hSw
        go_simp
        all_goals with_reducible rfl
      simp only [Act.put, List.setIfInBounds_toArray, List.set_cons_zero, List.set_cons_succ]
      refine wpAnyT_take (i := 47) (v := ?_) [] (oi := { dst := some 63, op := Go.Op.load 25 (Go.Operand.tmp 62), type := 25, pos := "high.go:11", after := #[{ on := 46, ground := Go.Ground.data }, { on := 37, ground := Go.Ground.guard }], guard := some (37, false) }) rfl (by kernel_rfl) (by kernel_rfl) (by kernel_rfl) (by kernel_rfl) (fun _ _ _ h => h) (Or.inl ⟨by rfl, ?_⟩) hHeld ?_
      rotate_left
      · intro wS hSw
        obtain ⟨q0, q1, q2, q3, q4, q5, q6, q7⟩ := QQ.out
        obtain ⟨r0, r1, r2, r3, r4, r5, r6, r7⟩ := RR.out
        replace q0 := cell_bel hSw q0
        replace q1 := cell_bel hSw q1
        replace q2 := cell_bel hSw q2
        replace q3 := cell_bel hSw q3
        replace q4 := cell_bel hSw q4
        replace q5 := cell_bel hSw q5
        replace q6 := cell_bel hSw q6
        replace q7 := cell_bel hSw q7
        replace r0 := cell_bel hSw r0
        replace r1 := cell_bel hSw r1
        replace r2 := cell_bel hSw r2
        replace r3 := cell_bel hSw r3
        replace r4 := cell_bel hSw r4
        replace r5 := cell_bel hSw r5
        replace r6 := cell_bel hSw r6
        replace r7 := cell_bel hSw r7
        go_simp
        all_goals with_reducible rfl
      simp only [Act.put, List.setIfInBounds_toArray, List.set_cons_zero, List.set_cons_succ]
      refine wpAnyT_ready (rs := [48]) (by kernel_rfl) (by simp) ?_
      refine AllReadyT.cons (i := 48) (o := { dst := some 64, op := Go.Op.call { callee := Go.Callee.value (Go.Operand.func 9), args := #[Go.Operand.tmp 58, Go.Operand.tmp 63], argTypes := #[25, 25] }, type := 4, pos := "high.go:11", after := #[{ on := 42, ground := Go.Ground.data }, { on := 47, ground := Go.Ground.data }, { on := 37, ground := Go.Ground.chain }, { on := 37, ground := Go.Ground.guard }], guard := some (37, false) }) rfl (fun K hK => ?_) ?_
      · go_simp
        refine (rsame_is _ _ _ z.value z.value _ _ (by exact HX.out.bel hHeld) (by exact HY.out.bel hHeld)).mono ?_
        rintro e w48q ⟨rfl, hb⟩
        rw [show decide (z.value = z.value) = true from decide_eq_true rfl]
        refine hK.out _ _ (bel_trans hHeld hb) (fun hHeld2 => ?_)
        clear hb
        clear hK K
        replace hHeld := hHeld2
        clear hHeld2
        try simp only [Act.put, List.setIfInBounds_toArray, List.set_cons_zero, List.set_cons_succ]
        refine wpAnyT_take (i := 49) (v := ?_) [] (oi := { dst := some 65, op := Go.Op.unOp Go.UnOp.not 4 (Go.Operand.tmp 64), type := 4, pos := "high.go:11", after := #[{ on := 48, ground := Go.Ground.data }, { on := 37, ground := Go.Ground.guard }], guard := some (37, false) }) rfl (by kernel_rfl) (by kernel_rfl) (by kernel_rfl) (by kernel_rfl) (fun _ _ _ h => h) (Or.inl ⟨by rfl, ?_⟩) hHeld ?_
        rotate_left
        · intro wS hSw
          go_simp
          all_goals with_reducible rfl
        simp only [Act.put, List.setIfInBounds_toArray, List.set_cons_zero, List.set_cons_succ]
        refine wpAnyT_take (i := 50) (v := ?_) [] (oi := { dst := some 66, op := Go.Op.pick (Go.Operand.tmp 53) (Go.Operand.const (Go.Value.bool true)) (Go.Operand.tmp 65), type := 4, pos := "high.go:11", after := #[{ on := 37, ground := Go.Ground.data }, { on := 49, ground := Go.Ground.data }], guard := none }) rfl (by kernel_rfl) (by kernel_rfl) (by kernel_rfl) (by kernel_rfl) (fun _ _ _ h => h) (Or.inl ⟨by rfl, ?_⟩) hHeld ?_
        rotate_left
        · intro wS hSw
          go_simp
          all_goals with_reducible rfl
        simp only [Act.put, List.setIfInBounds_toArray, List.set_cons_zero, List.set_cons_succ]
        refine wpAnyT_done (by kernel_rfl) ?_ _
        go_wp2_with fail
        go_roundg (os.length - (k + 1))
        case measure => rw [GK.out]; omega
        case rel => exact ⟨k + 1, hlt, hidI rfl, by go_num, hidI hHeld⟩
      exact AllReadyT.nil
    · have d1' : ¬ (k : Int) < (os.length : Int) := by omega
      go_wp2_with fail
      go_ret
      exact ⟨rfl, B1.out⟩
end Go.Proofs.YtaifciobaapehaaDoor

/- What slices.Clone does, at lists of texts and at lists of values. -/
set_option linter.unusedSimpArgs false
set_option linter.unusedVariables false
namespace Go.Proofs.YtaifciobaapehaaDoor
open Go.RowKit

set_option maxRecDepth 100000 in
set_option maxHeartbeats 1000000 in
theorem cloneS (w : World) (v : Value) (n : Nat) (cells : List Value) (h : SlIs w 1 v n cells) :
    Calls Tryd.prog 74 #[v] w fun e w' => ∃ v', e = .returned v' ∧ w'.ownsRow w.heap.size 9 1 v' n cells ∧ Below w.heap.size w w' := by
  obtain ⟨i0, hi, hz0, hz1, hz2⟩ := info_parts info9
  obtain ⟨g1, g2, g3, g4⟩ := h
  rcases g4 with ⟨rfl, rfl⟩ | ⟨ad, cc, rfl, hcs⟩
  · have hc0 : cells = [] := List.eq_nil_of_length_eq_zero (by rw [g1])
    subst hc0
    have hnil : ∀ W : World, (binOp .eql 22 (.slice none 0 0) (.slice none 0 0)).run Tryd.prog W = .ok (.bool true) W := fun W => Lib.run_eql_slice_nil W _ _ _ _ _ _ _ Tryd.underlying22
    go_enter Tryd.func74, Tryd.ntmps74
    go_wp2
    go_ret
    exact ⟨_, rfl, World.ownsRow_nil _ _ _ _, Below.refl _ _⟩
  · have O : Hid ((w.alloc (.cells #[] 9)).ownsRow w.heap.size 9 1 (.slice (some ⟨w.heap.size, 0, none⟩) 0 0) 0 []) := World.ownsRow_made w #[] 0 (Nat.le_refl _) (by simp) (by simp)
    have C : Hid (cells.length = n * 1 ∧ (∀ u ∈ cells, u.oneCell' = true) ∧ ∀ j u, cells[j]? = some u → (w.alloc (.cells #[] 9)).cell? (ad.add j) = some u) := ⟨g1, g3, fun j u hj => cell_bel (bel_alloc _ _) (hcs j u hj)⟩
    have hnil : ∀ W : World, (binOp .eql 22 (.slice (some ad) n cc) (.slice none 0 0)).run Tryd.prog W = .ok (.bool false) W := fun W => Lib.run_eql_slice_nil W _ _ _ _ _ _ _ Tryd.underlying22
    clear g1 g3 hcs
    go_enter Tryd.func74, Tryd.ntmps74
    go_wp2_with (at_builtin; go_must (refine wpList_append_own _ rfl _ _ 22 rfl w.heap.size 9 i0 _ 1 16 Tryd.underlying22 hi hz0 hz1 hz2 rfl (by decide) (.slice (some ⟨w.heap.size, 0, none⟩) 0 0) 0 [] rfl O.out ad n cc cells rfl C.out.1 C.out.2.2 C.out.2.1 (by unfold maxLen; omega) (by omega) (by simp) ?_); intro v2 w2 ho2 hg2 _; refine Hid.out ?_)
    refine hidI ?_
    have D : Hid (w2.ownsRow w.heap.size 9 1 v2 n cells ∧ Below w.heap.size w w2) := by
      rw [Nat.zero_add, List.nil_append] at ho2
      exact ⟨ho2, (bel_alloc w _).grown hg2 (by simp) (fun k hk => (O.out.lt k hk).1)⟩
    clear ho2 hg2
    go_wp2_with fail
    go_ret
    exact ⟨v2, rfl, D.out.1, D.out.2⟩
set_option maxRecDepth 100000 in
set_option maxHeartbeats 1000000 in
theorem cloneV (w : World) (v : Value) (n : Nat) (cells : List Value) (h : SlIs w 5 v n cells) :
    Calls Tryd.prog 75 #[v] w fun e w' => ∃ v', e = .returned v' ∧ w'.ownsRow w.heap.size 25 5 v' n cells ∧ Below w.heap.size w w' := by
  obtain ⟨i0, hi, hz0, hz1, hz2⟩ := info_parts info25
  obtain ⟨g1, g2, g3, g4⟩ := h
  rcases g4 with ⟨rfl, rfl⟩ | ⟨ad, cc, rfl, hcs⟩
  · have hc0 : cells = [] := List.eq_nil_of_length_eq_zero (by rw [g1])
    subst hc0
    have hnil : ∀ W : World, (binOp .eql 23 (.slice none 0 0) (.slice none 0 0)).run Tryd.prog W = .ok (.bool true) W := fun W => Lib.run_eql_slice_nil W _ _ _ _ _ _ _ Tryd.underlying23
    go_enter Tryd.func75, Tryd.ntmps75
    go_wp2
    go_ret
    exact ⟨_, rfl, World.ownsRow_nil _ _ _ _, Below.refl _ _⟩
  · have O : Hid ((w.alloc (.cells #[] 25)).ownsRow w.heap.size 25 5 (.slice (some ⟨w.heap.size, 0, none⟩) 0 0) 0 []) := World.ownsRow_made w #[] 0 (Nat.le_refl _) (by simp) (by simp)
    have C : Hid (cells.length = n * 5 ∧ (∀ u ∈ cells, u.oneCell' = true) ∧ ∀ j u, cells[j]? = some u → (w.alloc (.cells #[] 25)).cell? (ad.add j) = some u) := ⟨g1, g3, fun j u hj => cell_bel (bel_alloc _ _) (hcs j u hj)⟩
    have hnil : ∀ W : World, (binOp .eql 23 (.slice (some ad) n cc) (.slice none 0 0)).run Tryd.prog W = .ok (.bool false) W := fun W => Lib.run_eql_slice_nil W _ _ _ _ _ _ _ Tryd.underlying23
    clear g1 g3 hcs
    go_enter Tryd.func75, Tryd.ntmps75
    go_wp2_with (at_builtin; go_must (refine wpList_append_own _ rfl _ _ 23 rfl w.heap.size 25 i0 _ 5 80 Tryd.underlying23 hi hz0 hz1 hz2 rfl (by decide) (.slice (some ⟨w.heap.size, 0, none⟩) 0 0) 0 [] rfl O.out ad n cc cells rfl C.out.1 C.out.2.2 C.out.2.1 (by unfold maxLen; omega) (by omega) (by simp) ?_); intro v2 w2 ho2 hg2 _; refine Hid.out ?_)
    refine hidI ?_
    have D : Hid (w2.ownsRow w.heap.size 25 5 v2 n cells ∧ Below w.heap.size w w2) := by
      rw [Nat.zero_add, List.nil_append] at ho2
      exact ⟨ho2, (bel_alloc w _).grown hg2 (by simp) (fun k hk => (O.out.lt k hk).1)⟩
    clear ho2 hg2
    go_wp2_with fail
    go_ret
    exact ⟨v2, rfl, D.out.1, D.out.2⟩
/- An empty list: it is one in every world. -/
def Emp (b : Option Addr) (c : Nat) : Prop := c = 0 ∨ ∃ g o, b = some ⟨g, o, none⟩ ∧ c ≤ 9223372036854775807
theorem Emp.strs {b : Option Addr} {c : Nat} (h : Emp b c) (w : World) (ok : Nat → Prop) : StrsAre w ok [] (.slice b 0 c) := by
  rcases h with rfl | ⟨g, o, rfl, hc⟩
  · exact ⟨by simp, .inl ⟨rfl, b, rfl⟩⟩
  · exact ⟨by simp, .inr ⟨g, o, c, rfl, Nat.zero_le _, hc, fun i x hx => by simp at hx⟩⟩
theorem Emp.vals {b : Option Addr} {c : Nat} (h : Emp b c) (w : World) (ok : Nat → Prop) (R : V → Value → Prop) : ValsAre w ok R [] (.slice b 0 c) := by
  rcases h with rfl | ⟨g, o, rfl, hc⟩
  · exact ⟨by simp, .inl ⟨rfl, b, rfl⟩⟩
  · exact ⟨by simp, .inr ⟨g, o, c, rfl, Nat.zero_le _, hc, fun i x hx => by simp at hx⟩⟩
theorem emp_own {w : World} {B : Nat} {e : TypeId} {size : Nat} {v : Value} (h : w.ownsRow B e size v 0 []) : ∃ b c, v = .slice b 0 c ∧ Emp b c := by
  rcases h.2 with ⟨rfl, -⟩ | ⟨g, cap, cur, rfl, -, -, -, hc, -⟩
  · exact ⟨none, 0, rfl, .inl rfl⟩
  · exact ⟨_, cap, rfl, .inr ⟨g, 0, rfl, hc⟩⟩
theorem emp_sl {b : Option Addr} {c : Nat} (h : Emp b c) (w : World) (size : Nat) : SlIs w size (.slice b 0 c) 0 [] := by
  rcases h with rfl | ⟨g, o, rfl, hc⟩
  · exact slnil w size b
  · exact ⟨by simp, by omega, (fun u hu => absurd hu (by simp)), .inr ⟨_, c, rfl, fun j u hj => by simp at hj⟩⟩
theorem clone0S (w : World) (b : Option Addr) (c : Nat) (h : Emp b c) : Calls Tryd.prog 74 #[.slice b 0 c] w fun e w' => ∃ b' c', e = .returned (.slice b' 0 c') ∧ Emp b' c' ∧ Below w.heap.size w w' := by
  refine (cloneS w _ 0 [] (emp_sl h w 1)).mono ?_
  rintro e w' ⟨v', rfl, ho, hb⟩
  obtain ⟨b', c', rfl, he⟩ := emp_own ho
  exact ⟨b', c', rfl, he, hb⟩
theorem clone0V (w : World) (b : Option Addr) (c : Nat) (h : Emp b c) : Calls Tryd.prog 75 #[.slice b 0 c] w fun e w' => ∃ b' c', e = .returned (.slice b' 0 c') ∧ Emp b' c' ∧ Below w.heap.size w w' := by
  refine (cloneV w _ 0 [] (emp_sl h w 5)).mono ?_
  rintro e w' ⟨v', rfl, ho, hb⟩
  obtain ⟨b', c', rfl, he⟩ := emp_own ho
  exact ⟨b', c', rfl, he, hb⟩
theorem In.leaf {w : World} {ok : Nat → Prop} {k n : Int} {s : List UInt8} {v : Value} (h : In w ok ⟨k, n, s, [], []⟩ v) : ∃ b c b' c', v = .agg #[.int .i64 k, .int .i64 n, .string ⟨s.toArray⟩, .slice b 0 c, .slice b' 0 c'] ∧ Emp b c ∧ Emp b' c' ∧ I64 k ∧ I64 n ∧ s.length ≤ 9223372036854775807 := by
  obtain ⟨d, h⟩ := h.at
  obtain ⟨ks, ls, e, h1, h2, h3, h4, h5⟩ := h
  have f4 : ∃ b c, ks = .slice b 0 c ∧ Emp b c := by
    rcases h4.2 with ⟨-, a, rfl⟩ | ⟨b, off, c, rfl, -, hc, -⟩
    · exact ⟨a, 0, rfl, .inl rfl⟩
    · exact ⟨_, c, rfl, .inr ⟨b, off, rfl, hc⟩⟩
  have f5 : ∃ b c, ls = .slice b 0 c ∧ Emp b c := by
    rcases h5.2 with ⟨-, a, rfl⟩ | ⟨b, off, c, rfl, -, hc, -⟩
    · exact ⟨a, 0, rfl, .inl rfl⟩
    · exact ⟨_, c, rfl, .inr ⟨b, off, rfl, hc⟩⟩
  obtain ⟨b, c, rfl, e4⟩ := f4
  obtain ⟨b', c', rfl, e5⟩ := f5
  exact ⟨b, c, b', c', e, e4, e5, h1, h2, h3⟩
theorem leaf_in {b b' : Option Addr} {c c' : Nat} (h : Emp b c) (h' : Emp b' c') (w : World) (ok : Nat → Prop) {k n : Int} (hk : I64 k) (hn : I64 n) {s : List UInt8} (hs : s.length ≤ 9223372036854775807) : In w ok ⟨k, n, s, [], []⟩ (.agg #[.int .i64 k, .int .i64 n, .string ⟨s.toArray⟩, .slice b 0 c, .slice b' 0 c']) :=
  ⟨1, _, _, rfl, hk, hn, hs, h.strs w ok, h'.vals w ok _⟩
end Go.Proofs.YtaifciobaapehaaDoor

/- Rows of one's own: an item set. -/
set_option linter.unusedSimpArgs false
set_option linter.unusedVariables false
namespace Go.Proofs.YtaifciobaapehaaDoor
open Go.RowKit

theorem strs_sl {w : World} {ok : Nat → Prop} {xs : List (List UInt8)} {v : Value} (h : StrsAre w ok xs v) (hl : xs.length ≤ 1000000) : SlIs w 1 v xs.length (xs.map str) := by
  have h' := h
  rcases h.2 with ⟨rfl, a, rfl⟩ | ⟨b, off, c, rfl, h1, h2, h3⟩
  · exact slnil w 1 a
  · have := (ss_parts h' xs.length xs.length (Nat.le_refl _) (Nat.le_refl _) hl).1
    rwa [List.take_length] at this
theorem vals_sl {w : World} {ok : Nat → Prop} {d : Nat} {xs : List V} {v : Value} (h : ValsAre w ok (VIs w ok d) xs v) (hl : xs.length ≤ 1000000) : ∃ cs, RowV (VIs w ok d) xs cs ∧ SlIs w 5 v xs.length cs := by
  have h' := h
  rcases h.2 with ⟨rfl, a, rfl⟩ | ⟨b, off, c, rfl, h1, h2, h3⟩
  · exact ⟨[], rfl, slnil w 5 a⟩
  · obtain ⟨c1, c2, r1, s1, -, -⟩ := sl_parts h' xs.length xs.length (Nat.le_refl _) (Nat.le_refl _) hl
    rw [List.take_length] at r1
    exact ⟨c1, r1, s1⟩
theorem own_form {w : World} {B : Nat} {e : TypeId} {size : Nat} {v : Value} {n : Nat} {xs : List Value} (h : w.ownsRow B e size v n xs) : ∃ a c, v = .slice a n c ∧ (n = 0 ∨ ∃ g, a = some ⟨g, 0, none⟩) ∧ n ≤ c ∧ c ≤ 9223372036854775807 ∧ ∀ g, a = some ⟨g, 0, none⟩ → B ≤ g ∧ g < w.heap.size := by
  have hlt := h.lt
  rcases h.2 with ⟨rfl, h0⟩ | ⟨g, cap, cur, rfl, h1, h2, h3, h4, -⟩
  · exact ⟨none, 0, by rw [h0], .inl h0, by omega, by omega, fun g e => by cases e⟩
  · exact ⟨_, cap, rfl, .inr ⟨g, rfl⟩, h3, h4, fun g' e => by cases e; exact hlt g rfl⟩
theorem own_block {w : World} {B : Nat} {e : TypeId} {size : Nat} {a : Option Addr} {n c : Nat} {xs : List Value} (h : w.ownsRow B e size (.slice a n c) n xs) : a = none ∨ ∃ g, a = some ⟨g, 0, none⟩ := by
  rcases h.2 with ⟨e, -⟩ | ⟨g, cap, cur, e, -⟩
  · simp only [Value.slice.injEq] at e; exact .inl e.1
  · simp only [Value.slice.injEq] at e; exact .inr ⟨g, e.1⟩
/- All of a row, each of its own depth: of one depth. -/
theorem row_depth {w : World} {ok : Nat → Prop} : ∀ {xs : List V} {cs : List Value}, RowV (In w ok) xs cs → ∃ D, RowV (VIs w ok D) xs cs
  | [], cs, h => ⟨0, h⟩
  | x :: xs, cs, h => by
    obtain ⟨v0, v1, v2, v3, v4, rest, e, ⟨d, hd⟩, hr⟩ := h
    obtain ⟨D, hD⟩ := row_depth hr
    exact ⟨d + D, v0, v1, v2, v3, v4, rest, e, VIs.le (by omega) hd, hD.imp fun _ _ h => VIs.le (by omega) h⟩

theorem shaped_keys {x : V} (h : shapedB x = true) (hl : x.l.length ≤ 120) : x.keys.length ≤ 120 := by
  unfold shapedB listlessB at h
  repeat' split at h
  all_goals first | (simp only [Bool.and_eq_true, decide_eq_true_eq] at h; omega) | cases h
/- Five cells of a block, set. -/
def set5a (w : World) (g i : Nat) (d0 d1 d2 d3 d4 : Value) : World :=
  ((((w.setCell ⟨g, i, none⟩ d0).setCell ⟨g, i + 1, none⟩ d1).setCell ⟨g, i + 2, none⟩ d2).setCell ⟨g, i + 3, none⟩ d3).setCell ⟨g, i + 4, none⟩ d4
theorem set5a_gb (w : World) (g i : Nat) (d0 d1 d2 d3 d4 : Value) : w.grownBy (set5a w g i d0 d1 d2 d3 d4) (some g) :=
  gb_set (gb_set (gb_set (gb_set (gb_set (gb_refl _ _) _ _) _ _) _ _) _ _) _ _
/- An item of a row of one's own, set. -/
theorem own_set {w : World} {B : Nat} {e : TypeId} {g n cap : Nat} {xs zs : List Value} {d0 d1 d2 d3 d4 v0 v1 v2 v3 v4 : Value} (h : w.ownsRow B e 5 (.slice (some ⟨g, 0, none⟩) n cap) n (xs ++ v0 :: v1 :: v2 :: v3 :: v4 :: zs)) :
    (set5a w g xs.length d0 d1 d2 d3 d4).ownsRow B e 5 (.slice (some ⟨g, 0, none⟩) n cap) n (xs ++ d0 :: d1 :: d2 :: d3 :: d4 :: zs) := by
  obtain ⟨hl, h⟩ := h
  refine ⟨by simpa using hl, ?_⟩
  rcases h with ⟨e, _⟩ | ⟨g', cap', cur, e1, h1, h2, h3, h4, h5, h6⟩
  · cases e
  · simp only [Value.slice.injEq, Option.some.injEq, Addr.mk.injEq, true_and, and_true] at e1
    obtain ⟨rfl, rfl⟩ := e1
    have e9 := heap_set (heap_set (heap_set (heap_set (heap_set h2 xs.length d0) (xs.length + 1) d1) (xs.length + 2) d2) (xs.length + 3) d3) (xs.length + 4) d4
    refine .inr ⟨g, cap, _, rfl, h1, e9, h3, h4, by simp [h5], ?_⟩
    obtain ⟨tl, hcur⟩ : ∃ tl, cur.toList = (xs ++ v0 :: v1 :: v2 :: v3 :: v4 :: zs) ++ tl := ⟨cur.toList.drop (n * 5), by rw [← h6, List.take_append_drop]⟩
    have key : ∀ (r : List Value), (((((xs ++ v0 :: v1 :: v2 :: v3 :: v4 :: r).set xs.length d0).set (xs.length + 1) d1).set (xs.length + 2) d2).set (xs.length + 3) d3).set (xs.length + 4) d4 = xs ++ d0 :: d1 :: d2 :: d3 :: d4 :: r := by
      intro r
      simp [List.set_append]
    have hcur2 : cur.toList = xs ++ v0 :: v1 :: v2 :: v3 :: v4 :: (zs ++ tl) := by rw [hcur]; simp
    simp only [Array.toList_setIfInBounds]
    rw [hcur2, key]
    have hn : n * 5 = (xs ++ d0 :: d1 :: d2 :: d3 :: d4 :: zs).length := by rw [← hl]; simp
    have e10 : xs ++ d0 :: d1 :: d2 :: d3 :: d4 :: (zs ++ tl) = (xs ++ d0 :: d1 :: d2 :: d3 :: d4 :: zs) ++ tl := by simp
    rw [e10, List.take_append_of_le_length (by omega), List.take_of_length_le (by omega)]

theorem drop5 {cs : List Value} {i : Nat} {v0 v1 v2 v3 v4 : Value} (g0 : cs[i * 5]? = some v0) (g1 : cs[i * 5 + 1]? = some v1) (g2 : cs[i * 5 + 2]? = some v2) (g3 : cs[i * 5 + 3]? = some v3) (g4 : cs[i * 5 + 4]? = some v4) : cs.drop (i * 5) = v0 :: v1 :: v2 :: v3 :: v4 :: cs.drop ((i + 1) * 5) := by
  obtain ⟨h0, e0⟩ := List.getElem?_eq_some_iff.1 g0
  obtain ⟨h1, e1⟩ := List.getElem?_eq_some_iff.1 g1
  obtain ⟨h2, e2⟩ := List.getElem?_eq_some_iff.1 g2
  obtain ⟨h3, e3⟩ := List.getElem?_eq_some_iff.1 g3
  obtain ⟨h4, e4⟩ := List.getElem?_eq_some_iff.1 g4
  rw [List.drop_eq_getElem_cons h0, List.drop_eq_getElem_cons h1, List.drop_eq_getElem_cons h2, List.drop_eq_getElem_cons h3, List.drop_eq_getElem_cons h4, e0, e1, e2, e3, e4, show i * 5 + 4 + 1 = (i + 1) * 5 by omega]
def Own5 (w : World) (g i : Nat) : Prop := (∃ u, w.cell? ⟨g, i, none⟩ = some u) ∧ (∃ u, w.cell? ⟨g, i + 1, none⟩ = some u) ∧ (∃ u, w.cell? ⟨g, i + 2, none⟩ = some u) ∧ (∃ u, w.cell? ⟨g, i + 3, none⟩ = some u) ∧ (∃ u, w.cell? ⟨g, i + 4, none⟩ = some u) ∧
  w.frozen? ⟨g, i, none⟩ = false ∧ w.frozen? ⟨g, i + 1, none⟩ = false ∧ w.frozen? ⟨g, i + 2, none⟩ = false ∧ w.frozen? ⟨g, i + 3, none⟩ = false ∧ w.frozen? ⟨g, i + 4, none⟩ = false
theorem own_cells5 {w : World} {B : Nat} {e : TypeId} {g n cap i : Nat} {xs zs : List Value} {v0 v1 v2 v3 v4 : Value} (h : w.ownsRow B e 5 (.slice (some ⟨g, 0, none⟩) n cap) n (xs ++ v0 :: v1 :: v2 :: v3 :: v4 :: zs)) (hi : xs.length = i) :
    w.cell? ⟨g, i, none⟩ = some v0 ∧ w.cell? ⟨g, i + 1, none⟩ = some v1 ∧ w.cell? ⟨g, i + 2, none⟩ = some v2 ∧ w.cell? ⟨g, i + 3, none⟩ = some v3 ∧ w.cell? ⟨g, i + 4, none⟩ = some v4 := by
  subst hi
  have c : ∀ j u, (xs ++ v0 :: v1 :: v2 :: v3 :: v4 :: zs)[j]? = some u → w.cell? ⟨g, j, none⟩ = some u := fun j u hj => by
    have := h.cells (g := g) rfl j u hj
    rw [addr_add, Nat.zero_add] at this; exact this
  exact ⟨c _ _ (by simp), c _ _ (by simp), c _ _ (by simp), c _ _ (by simp), c _ _ (by simp)⟩
theorem own5_of {w : World} {B : Nat} {e : TypeId} {g n cap i : Nat} {xs zs : List Value} {v0 v1 v2 v3 v4 : Value} (h : w.ownsRow B e 5 (.slice (some ⟨g, 0, none⟩) n cap) n (xs ++ v0 :: v1 :: v2 :: v3 :: v4 :: zs)) (hi : xs.length = i) : Own5 w g i := by
  obtain ⟨c0, c1, c2, c3, c4⟩ := own_cells5 h hi
  have fz : ∀ j, w.frozen? ⟨g, j, none⟩ = false := by
    intro j
    rcases h.2 with ⟨e, _⟩ | ⟨g', cap', cur, e1, -, h2, -⟩
    · cases e
    · simp only [Value.slice.injEq, Option.some.injEq, Addr.mk.injEq, and_true] at e1
      obtain ⟨rfl, -, -⟩ := e1
      simp [World.frozen?, h2]
  exact ⟨⟨_, c0⟩, ⟨_, c1⟩, ⟨_, c2⟩, ⟨_, c3⟩, ⟨_, c4⟩, fz _, fz _, fz _, fz _, fz _⟩
theorem bel_set5a {w w1 : World} {g : Nat} (h : Below w.heap.size w w1) (hg : w.heap.size ≤ g) (i : Nat) (d0 d1 d2 d3 d4 : Value) : Below w.heap.size w (set5a w1 g i d0 d1 d2 d3 d4) :=
  gb_none (gb_setA (gb_setA (gb_setA (gb_setA (gb_setA (gb_below h) hg _ _) hg _ _) hg _ _) hg _ _) hg _ _)
end Go.Proofs.YtaifciobaapehaaDoor

/- What twin of package patch does. -/
set_option linter.unusedSimpArgs false
set_option linter.unusedVariables false
namespace Go.Proofs.YtaifciobaapehaaDoor
open Go.RowKit

/- What is said of twin. -/
def TwinC (d : Nat) : Prop := ∀ (w : World) (ok : Nat → Prop) (x : V) (xv : Value), VIs w ok d x xv → Nice x →
    Calls Tryd.prog 61 #[xv] w fun e w' => ∃ r, e = .returned r ∧ Below w.heap.size w w' ∧ In w' (fun k => w.heap.size ≤ k) x r
/- So far: the first k items are twins. -/
def TwL (w : World) (x : V) (cs : List Value) (ka' la' : Option Addr) (kc' lc' k : Nat) (wr : World) : Prop :=
  ∃ ns : List Value, BoxIs wr w.heap.size (.int .i64 x.kind) (.int .i64 x.n) (.string ⟨x.s.toArray⟩) (.slice ka' x.keys.length kc') (.slice la' x.l.length lc') ∧ BoxIs wr (w.heap.size + 1) (.int .i64 0) (.int .i64 0) (.string ⟨#[]⟩) (.slice none 0 0) (.slice none 0 0) ∧ Below w.heap.size w wr ∧ wr.ownsRow (w.heap.size + 2) 9 1 (.slice ka' x.keys.length kc') x.keys.length (x.keys.map str) ∧ wr.ownsRow (w.heap.size + 2) 25 5 (.slice la' x.l.length lc') x.l.length (ns ++ cs.drop (k * 5)) ∧ RowV (In wr (fun j => w.heap.size + 2 ≤ j ∧ la' ≠ some ⟨j, 0, none⟩)) (x.l.take k) ns
/- Behind both Clones. -/
def TwI (w : World) (x : V) (cs : List Value) (wc : World) : Prop :=
  ∃ (ka' la' : Option Addr) (kc' lc' : Nat), BoxIs wc w.heap.size (.int .i64 x.kind) (.int .i64 x.n) (.string ⟨x.s.toArray⟩) (.slice ka' x.keys.length kc') (.slice la' x.l.length lc') ∧ BoxIs wc (w.heap.size + 1) (.int .i64 0) (.int .i64 0) (.string ⟨#[]⟩) (.slice none 0 0) (.slice none 0 0) ∧ Below w.heap.size w wc ∧ wc.ownsRow (w.heap.size + 2) 9 1 (.slice ka' x.keys.length kc') x.keys.length (x.keys.map str) ∧ wc.ownsRow (w.heap.size + 2) 25 5 (.slice la' x.l.length lc') x.l.length cs ∧ (∀ g, ka' = some ⟨g, 0, none⟩ → la' ≠ some ⟨g, 0, none⟩)

set_option maxRecDepth 100000 in
set_option maxHeartbeats 40000000 in
theorem twin_succ (d : Nat) (ih : TwinC d) : TwinC (d + 1) := by
  intro w ok x xv h hn
  have hlen := nice_len hn
  have hklen : x.keys.length ≤ 120 := shaped_keys (nice_shaped hn) hlen
  obtain ⟨ks, ls, rfl, h1, h2, h3, h4, h5⟩ := h
  have sk := strs_sl h4 (by omega)
  obtain ⟨cs, hrow, sl⟩ := vals_sl h5 (by omega)
  obtain ⟨ka, kc, rfl⟩ := h4.form
  obtain ⟨la, lc, rfl⟩ := h5.form
  have KK : Hid (I64 x.kind ∧ I64 x.n ∧ x.s.length ≤ maxLen ∧ (∀ y ∈ x.keys, y.length ≤ maxLen)) := ⟨h1, h2, h3, fun y hy => h4.mem y hy⟩
  have RW := hidI hrow
  have SK := hidI sk
  have SL := hidI sl
  have IH := hidI ih
  have HN := hidI hn
  clear h1 h2 h3 h4 h5 hrow sk sl ih hn
  unfold str
  have bx0 : Hid (∀ W, W.heap = ((w.alloc (.cells #[.int .i64 x.kind, .int .i64 x.n, .string ⟨x.s.toArray⟩, .slice ka x.keys.length kc, .slice la x.l.length lc] 25)).alloc (.cells #[.int .i64 0, .int .i64 0, .string ⟨#[]⟩, .slice none 0 0, .slice none 0 0] 25)).heap → W.os = w.os → W.tape = w.tape → W.output = w.output → BoxIs W w.heap.size (.int .i64 x.kind) (.int .i64 x.n) (.string ⟨x.s.toArray⟩) (.slice ka x.keys.length kc) (.slice la x.l.length lc) ∧ BoxIs W (w.heap.size + 1) (.int .i64 0) (.int .i64 0) (.string ⟨#[]⟩) (.slice none 0 0) (.slice none 0 0) ∧ Below w.heap.size w W ∧ w.heap.size + 2 ≤ W.heap.size) := by
    intro W e1 e2 e3 e4
    exact ⟨by unfold BoxIs; rw [e1]; exact h2a w _ _, by unfold BoxIs; rw [e1]; exact h2b w _ _, bel_of2 e1 e2 e3 e4, by rw [e1]; simp⟩
  have conS1 : Hid (∀ W, (BoxIs W w.heap.size (.int .i64 x.kind) (.int .i64 x.n) (.string ⟨x.s.toArray⟩) (.slice ka x.keys.length kc) (.slice la x.l.length lc) ∧ BoxIs W (w.heap.size + 1) (.int .i64 0) (.int .i64 0) (.string ⟨#[]⟩) (.slice none 0 0) (.slice none 0 0) ∧ Below w.heap.size w W ∧ w.heap.size + 2 ≤ W.heap.size) → Calls Tryd.prog 74 #[(.slice ka x.keys.length kc)] W fun e w' => ∃ ka' kc', e = .returned (.slice ka' x.keys.length kc') ∧ (BoxIs w' w.heap.size (.int .i64 x.kind) (.int .i64 x.n) (.string ⟨x.s.toArray⟩) (.slice ka x.keys.length kc) (.slice la x.l.length lc) ∧ BoxIs w' (w.heap.size + 1) (.int .i64 0) (.int .i64 0) (.string ⟨#[]⟩) (.slice none 0 0) (.slice none 0 0) ∧ Below w.heap.size w w' ∧ w.heap.size + 2 ≤ w'.heap.size) ∧ w'.ownsRow (w.heap.size + 2) 9 1 (.slice ka' x.keys.length kc') x.keys.length (x.keys.map str)) := by
    intro W hW
    refine (cloneS W _ _ _ (SK.out.bel hW.2.2.1)).mono ?_
    rintro e w' ⟨v', rfl, ho, hb⟩
    obtain ⟨a, c, rfl, -⟩ := own_form ho
    exact ⟨a, c, rfl, ⟨box_bel hb hW.1, box_bel hb hW.2.1, bel_trans hW.2.2.1 hb, Nat.le_trans hW.2.2.2 hb.size⟩, own_base ho hW.2.2.2⟩
  have conV1 : Hid (∀ W, (BoxIs W w.heap.size (.int .i64 x.kind) (.int .i64 x.n) (.string ⟨x.s.toArray⟩) (.slice ka x.keys.length kc) (.slice la x.l.length lc) ∧ BoxIs W (w.heap.size + 1) (.int .i64 0) (.int .i64 0) (.string ⟨#[]⟩) (.slice none 0 0) (.slice none 0 0) ∧ Below w.heap.size w W ∧ w.heap.size + 2 ≤ W.heap.size) → Calls Tryd.prog 75 #[(.slice la x.l.length lc)] W fun e w' => ∃ la' lc', e = .returned (.slice la' x.l.length lc') ∧ (BoxIs w' w.heap.size (.int .i64 x.kind) (.int .i64 x.n) (.string ⟨x.s.toArray⟩) (.slice ka x.keys.length kc) (.slice la x.l.length lc) ∧ BoxIs w' (w.heap.size + 1) (.int .i64 0) (.int .i64 0) (.string ⟨#[]⟩) (.slice none 0 0) (.slice none 0 0) ∧ Below w.heap.size w w' ∧ w.heap.size + 2 ≤ w'.heap.size) ∧ w'.ownsRow (w.heap.size + 2) 25 5 (.slice la' x.l.length lc') x.l.length cs) := by
    intro W hW
    refine (cloneV W _ _ _ (SL.out.bel hW.2.2.1)).mono ?_
    rintro e w' ⟨v', rfl, ho, hb⟩
    obtain ⟨a, c, rfl, -⟩ := own_form ho
    exact ⟨a, c, rfl, ⟨box_bel hb hW.1, box_bel hb hW.2.1, bel_trans hW.2.2.1 hb, Nat.le_trans hW.2.2.2 hb.size⟩, own_base ho hW.2.2.2⟩
  have conV2 : Hid (∀ W ka' kc', ((BoxIs W w.heap.size (.int .i64 x.kind) (.int .i64 x.n) (.string ⟨x.s.toArray⟩) (.slice ka x.keys.length kc) (.slice la x.l.length lc) ∧ BoxIs W (w.heap.size + 1) (.int .i64 0) (.int .i64 0) (.string ⟨#[]⟩) (.slice none 0 0) (.slice none 0 0) ∧ Below w.heap.size w W ∧ w.heap.size + 2 ≤ W.heap.size) ∧ W.ownsRow (w.heap.size + 2) 9 1 (.slice ka' x.keys.length kc') x.keys.length (x.keys.map str)) → Calls Tryd.prog 75 #[(.slice la x.l.length lc)] W fun e w' => ∃ la' lc', e = .returned (.slice la' x.l.length lc') ∧ (BoxIs w' w.heap.size (.int .i64 x.kind) (.int .i64 x.n) (.string ⟨x.s.toArray⟩) (.slice ka x.keys.length kc) (.slice la x.l.length lc) ∧ BoxIs w' (w.heap.size + 1) (.int .i64 0) (.int .i64 0) (.string ⟨#[]⟩) (.slice none 0 0) (.slice none 0 0) ∧ Below w.heap.size w w' ∧ w.heap.size + 2 ≤ w'.heap.size) ∧ w'.ownsRow (w.heap.size + 2) 9 1 (.slice ka' x.keys.length kc') x.keys.length (x.keys.map str) ∧ w'.ownsRow (w.heap.size + 2) 25 5 (.slice la' x.l.length lc') x.l.length cs ∧ (∀ g, ka' = some ⟨g, 0, none⟩ → la' ≠ some ⟨g, 0, none⟩)) := by
    intro W ka' kc' hW
    refine (cloneV W _ _ _ (SL.out.bel hW.1.2.2.1)).mono ?_
    rintro e w' ⟨v', rfl, ho, hb⟩
    obtain ⟨a, c, rfl, -, -, -, hg⟩ := own_form ho
    refine ⟨a, c, rfl, ⟨box_bel hb hW.1.1, box_bel hb hW.1.2.1, bel_trans hW.1.2.2.1 hb, Nat.le_trans hW.1.2.2.2 hb.size⟩, own_bel hW.2 hb, own_base ho hW.1.2.2.2, fun g e1 e2 => ?_⟩
    have := (hg g e2).1
    have := (hW.2.lt g (by rw [e1]; rfl)).2
    omega
  have conS2 : Hid (∀ W la' lc', ((BoxIs W w.heap.size (.int .i64 x.kind) (.int .i64 x.n) (.string ⟨x.s.toArray⟩) (.slice ka x.keys.length kc) (.slice la x.l.length lc) ∧ BoxIs W (w.heap.size + 1) (.int .i64 0) (.int .i64 0) (.string ⟨#[]⟩) (.slice none 0 0) (.slice none 0 0) ∧ Below w.heap.size w W ∧ w.heap.size + 2 ≤ W.heap.size) ∧ W.ownsRow (w.heap.size + 2) 25 5 (.slice la' x.l.length lc') x.l.length cs) → Calls Tryd.prog 74 #[(.slice ka x.keys.length kc)] W fun e w' => ∃ ka' kc', e = .returned (.slice ka' x.keys.length kc') ∧ (BoxIs w' w.heap.size (.int .i64 x.kind) (.int .i64 x.n) (.string ⟨x.s.toArray⟩) (.slice ka x.keys.length kc) (.slice la x.l.length lc) ∧ BoxIs w' (w.heap.size + 1) (.int .i64 0) (.int .i64 0) (.string ⟨#[]⟩) (.slice none 0 0) (.slice none 0 0) ∧ Below w.heap.size w w' ∧ w.heap.size + 2 ≤ w'.heap.size) ∧ w'.ownsRow (w.heap.size + 2) 9 1 (.slice ka' x.keys.length kc') x.keys.length (x.keys.map str) ∧ w'.ownsRow (w.heap.size + 2) 25 5 (.slice la' x.l.length lc') x.l.length cs ∧ (∀ g, ka' = some ⟨g, 0, none⟩ → la' ≠ some ⟨g, 0, none⟩)) := by
    intro W la' lc' hW
    refine (cloneS W _ _ _ (SK.out.bel hW.1.2.2.1)).mono ?_
    rintro e w' ⟨v', rfl, ho, hb⟩
    obtain ⟨a, c, rfl, -, -, -, hg⟩ := own_form ho
    refine ⟨a, c, rfl, ⟨box_bel hb hW.1.1, box_bel hb hW.1.2.1, bel_trans hW.1.2.2.1 hb, Nat.le_trans hW.1.2.2.2 hb.size⟩, own_base ho hW.1.2.2.2, own_bel hW.2 hb, fun g e1 e2 => ?_⟩
    have := (hg g e1).1
    have := (hW.2.lt g (by rw [e2]; rfl)).2
    omega
  have midI : Hid (∀ (wb : World) (ka' la' : Option Addr) (kc' lc' : Nat), ((BoxIs wb w.heap.size (.int .i64 x.kind) (.int .i64 x.n) (.string ⟨x.s.toArray⟩) (.slice ka x.keys.length kc) (.slice la x.l.length lc) ∧ BoxIs wb (w.heap.size + 1) (.int .i64 0) (.int .i64 0) (.string ⟨#[]⟩) (.slice none 0 0) (.slice none 0 0) ∧ Below w.heap.size w wb ∧ w.heap.size + 2 ≤ wb.heap.size) ∧ wb.ownsRow (w.heap.size + 2) 9 1 (.slice ka' x.keys.length kc') x.keys.length (x.keys.map str) ∧ wb.ownsRow (w.heap.size + 2) 25 5 (.slice la' x.l.length lc') x.l.length cs ∧ (∀ g, ka' = some ⟨g, 0, none⟩ → la' ≠ some ⟨g, 0, none⟩)) → ∀ W, (W = (wb.setCell ⟨w.heap.size, 3, none⟩ (.slice ka' x.keys.length kc')).setCell ⟨w.heap.size, 4, none⟩ (.slice la' x.l.length lc') ∨ W = (wb.setCell ⟨w.heap.size, 4, none⟩ (.slice la' x.l.length lc')).setCell ⟨w.heap.size, 3, none⟩ (.slice ka' x.keys.length kc')) → TwI w x cs W) := by
    intro wb ka' la' kc' lc' hw W hW
    have g1 : ∀ (i j : Nat) (u v : Value), wb.grownBy ((wb.setCell ⟨w.heap.size, i, none⟩ u).setCell ⟨w.heap.size, j, none⟩ v) (some w.heap.size) := fun i j u v => gb_set (gb_set (gb_refl _ _) _ _) _ _
    refine ⟨ka', la', kc', lc', ?_⟩
    rcases hW with rfl | rfl
    · exact ⟨heap_set (heap_set hw.1.1 3 _) 4 _, hw.1.2.1.grown (g1 _ _ _ _) (by simp), gb_none (gb_setA (gb_setA (gb_below hw.1.2.2.1) (Nat.le_refl _) _ _) (Nat.le_refl _) _ _), own_kept' hw.2.1 (g1 _ _ _ _) (by omega), own_kept' hw.2.2.1 (g1 _ _ _ _) (by omega), hw.2.2.2⟩
    · exact ⟨heap_set (heap_set hw.1.1 4 _) 3 _, hw.1.2.1.grown (g1 _ _ _ _) (by simp), gb_none (gb_setA (gb_setA (gb_below hw.1.2.2.1) (Nat.le_refl _) _ _) (Nat.le_refl _) _ _), own_kept' hw.2.1 (g1 _ _ _ _) (by omega), own_kept' hw.2.2.1 (g1 _ _ _ _) (by omega), hw.2.2.2⟩
  go_enter Tryd.func61, Tryd.ntmps61
  go_upto_region 1 with fail
  go_cut [] (fun wc => TwI w x cs wc)
  case first =>
    go_region_with (first
      | (go_at_call 74; refine (conS1.out _ (bx0.out _ (by rfl) (by rfl) (by rfl) (by rfl))).mono ?_; rintro e wa ⟨ka', kc', rfl, hka⟩; obtain ⟨p0, p1, p2, p3, p4, p5, p6, p7, p8, p9⟩ := hka.1.1.c; have KA := hidI hka; clear hka)
      | (go_at_call 75; refine (conV1.out _ (bx0.out _ (by rfl) (by rfl) (by rfl) (by rfl))).mono ?_; rintro e wa ⟨la', lc', rfl, hka⟩; obtain ⟨p0, p1, p2, p3, p4, p5, p6, p7, p8, p9⟩ := hka.1.1.c; have KA := hidI hka; clear hka)
      | (go_at_call 74; refine (conS2.out _ la' lc' (by exact KA.out)).mono ?_; rintro e wb ⟨ka', kc', rfl, hkb⟩; clear p0 p1 p2 p3 p4 p5 p6 p7 p8 p9; obtain ⟨p0, p1, p2, p3, p4, p5, p6, p7, p8, p9⟩ := hkb.1.1.c; have KB := hidI hkb; clear hkb)
      | (go_at_call 75; refine (conV2.out _ ka' kc' (by exact KA.out)).mono ?_; rintro e wb ⟨la', lc', rfl, hkb⟩; clear p0 p1 p2 p3 p4 p5 p6 p7 p8 p9; obtain ⟨p0, p1, p2, p3, p4, p5, p6, p7, p8, p9⟩ := hkb.1.1.c; have KB := hidI hkb; clear hkb))
    all_goals
      go_wp2_with fail
      go_meet
      case rel => first | exact midI.out _ ka' la' kc' lc' KB.out _ (.inl rfl) | exact midI.out _ ka' la' kc' lc' KB.out _ (.inr rfl)
  case rest =>
    obtain ⟨ka', la', kc', lc', k1, k2, k3, k4, k5, k6⟩ := hcut
    have hcs := RW.out.length
    have KF := hidI k6
    have TL0 : Hid (TwL w x cs ka' la' kc' lc' 0 wc) := ⟨[], k1, k2, k3, k4, by simpa using k5, rfl⟩
    obtain ⟨a9, c9, e9, hla, hlc1, hlc2, hlg⟩ := own_form k5
    simp only [Value.slice.injEq] at e9
    obtain ⟨rfl, -, rfl⟩ := e9
    obtain ⟨p0, p1, p2, p3, p4, -⟩ := k1.c
    clear k1 k2 k3 k4 k5 k6 conS1 conS2 conV1 conV2 midI bx0 hlg
    go_wp2_with fail
    go_loopg [16] x.l.length (fun gk i wr => ∃ k : Nat, k ≤ x.l.length ∧ gk = x.l.length - k ∧ i = .int .i64 k ∧ TwL w x cs ka' la' kc' lc' k wr)
    case atStart => exact ⟨0, Nat.zero_le _, rfl, rfl, TL0.out⟩
    case round =>
      obtain ⟨k, hk, hgk, rfl, ns, i1, i2, i3, i4, i5, i6⟩ := hrel
      have GK := hidI hgk
      have I : Hid (BoxIs wr w.heap.size (.int .i64 x.kind) (.int .i64 x.n) (.string ⟨x.s.toArray⟩) (.slice ka' x.keys.length kc') (.slice la' x.l.length lc') ∧ BoxIs wr (w.heap.size + 1) (.int .i64 0) (.int .i64 0) (.string ⟨#[]⟩) (.slice none 0 0) (.slice none 0 0) ∧ Below w.heap.size w wr ∧ wr.ownsRow (w.heap.size + 2) 9 1 (.slice ka' x.keys.length kc') x.keys.length (x.keys.map str) ∧ wr.ownsRow (w.heap.size + 2) 25 5 (.slice la' x.l.length lc') x.l.length (ns ++ cs.drop (k * 5)) ∧ RowV (In wr (fun j => w.heap.size + 2 ≤ j ∧ la' ≠ some ⟨j, 0, none⟩)) (x.l.take k) ns) := ⟨i1, i2, i3, i4, i5, i6⟩
      clear hgk i1 i2 i3 i4 i5 i6 p0 p1 p2 p3 p4
      by_cases hlt : k < x.l.length
      · obtain ⟨gl, rfl⟩ : ∃ gl, la' = some ⟨gl, 0, none⟩ := by
          rcases hla with h0 | h0
          · omega
          · exact h0
        obtain ⟨v0, v1, v2, v3, v4, g0, g1, g2, g3, g4, g5⟩ := RW.out.get k x.l[k] (List.getElem?_eq_getElem hlt)
        have hns : ns.length = k * 5 := by have := I.out.2.2.2.2.2.length; rw [List.length_take, Nat.min_eq_left hk] at this; exact this
        have G5 := hidI g5
        have hdrop : cs.drop (k * 5) = v0 :: v1 :: v2 :: v3 :: v4 :: cs.drop ((k + 1) * 5) := drop5 g0 g1 g2 g3 g4
        obtain ⟨rfl, rfl, rfl, ⟨a5, c5, rfl⟩, ⟨a6, c6, rfl⟩⟩ := g5.agg
        have DR := hidI hdrop
        have hgl := (I.out.2.2.2.2.1.lt gl rfl)
        have cel := own_cells5 (by rw [← hdrop]; exact I.out.2.2.2.2.1) hns
        obtain ⟨m0, m1, m2, m3, m4⟩ := cel
        obtain ⟨p0, p1, p2, p3, p4, -⟩ := I.out.1.c
        have p4' := (box_bel (bel_alloc wr (.cells #[.int .i64 x.l[k].kind, .int .i64 x.l[k].n, .string ⟨x.l[k].s.toArray⟩, .slice a5 x.l[k].keys.length c5, .slice a6 x.l[k].l.length c6] 25)) I.out.1).c.2.2.2.2.1
        have con5 : Hid (∀ W, W.heap = (wr.alloc (.cells #[.int .i64 x.l[k].kind, .int .i64 x.l[k].n, .string ⟨x.l[k].s.toArray⟩, .slice a5 x.l[k].keys.length c5, .slice a6 x.l[k].l.length c6] 25)).heap → W.os = wr.os → W.tape = wr.tape → W.output = wr.output → Calls Tryd.prog 61 #[.agg #[.int .i64 x.l[k].kind, .int .i64 x.l[k].n, .string ⟨x.l[k].s.toArray⟩, .slice a5 x.l[k].keys.length c5, .slice a6 x.l[k].l.length c6]] W fun e w' => ∃ (b5 b6 : Option Addr) (d5 d6 : Nat), e = .returned (.agg #[.int .i64 x.l[k].kind, .int .i64 x.l[k].n, .string ⟨x.l[k].s.toArray⟩, .slice b5 x.l[k].keys.length d5, .slice b6 x.l[k].l.length d6]) ∧ w'.cell? ⟨w.heap.size, 4, none⟩ = some (.slice (some ⟨gl, 0, none⟩) x.l.length lc') ∧
            (Own5 w' gl (k * 5)) ∧ ∀ W', W' = set5a w' gl (k * 5) (.int .i64 x.l[k].kind) (.int .i64 x.l[k].n) (.string ⟨x.l[k].s.toArray⟩) (.slice b5 x.l[k].keys.length d5) (.slice b6 x.l[k].l.length d6) → TwL w x cs ka' (some ⟨gl, 0, none⟩) kc' lc' (k + 1) W') := by
          intro W e1 e2 e3 e4
          have hbW : Below wr.heap.size wr W := by
            have := bel_alloc wr (.cells #[.int .i64 x.l[k].kind, .int .i64 x.l[k].n, .string ⟨x.l[k].s.toArray⟩, .slice a5 x.l[k].keys.length c5, .slice a6 x.l[k].l.length c6] 25)
            exact ⟨e2, e3, e4, by rw [e1]; exact this.size, fun j hj => by rw [e1]; exact this.block j hj⟩
          refine (IH.out W ok x.l[k] _ (G5.out.bel (bel_trans I.out.2.2.1 hbW)) (nice_mem HN.out (List.getElem_mem _))).mono ?_
          rintro e w' ⟨r, rfl, hb, hr⟩
          obtain ⟨b5, b6, d5, d6, rfl⟩ := hr.form
          have hb3 := bel_trans hbW hb
          have oL := own_bel I.out.2.2.2.2.1 hb3
          rw [DR.out] at oL
          have hWs : wr.heap.size ≤ W.heap.size := hbW.size
          refine ⟨b5, b6, d5, d6, rfl, (box_bel hb3 I.out.1).c.2.2.2.2.1, own5_of oL hns, ?_⟩
          rintro W' rfl
          have gs := set5a_gb w' gl (k * 5) (.int .i64 x.l[k].kind) (.int .i64 x.l[k].n) (.string ⟨x.l[k].s.toArray⟩) (.slice b5 x.l[k].keys.length d5) (.slice b6 x.l[k].l.length d6)
          refine ⟨ns ++ [.int .i64 x.l[k].kind, .int .i64 x.l[k].n, .string ⟨x.l[k].s.toArray⟩, .slice b5 x.l[k].keys.length d5, .slice b6 x.l[k].l.length d6], (box_bel hb3 I.out.1).grown gs (by simp; omega), (box_bel hb3 I.out.2.1).grown gs (by simp; omega), bel_set5a (bel_trans I.out.2.2.1 hb3) (by omega) _ _ _ _ _ _, ?_, ?_, ?_⟩
          · refine (own_bel I.out.2.2.2.1 hb3).kept gs ?_
            rcases own_block I.out.2.2.2.1 with e | ⟨g, e⟩
            · rw [e]; exact .inl rfl
            · rw [e]
              refine .inr fun e9 => KF.out g e ?_
              simp only [Value.ownBlock, Option.some.injEq] at e9
              rw [e9]
          · have := own_set (d0 := .int .i64 x.l[k].kind) (d1 := .int .i64 x.l[k].n) (d2 := .string ⟨x.l[k].s.toArray⟩) (d3 := .slice b5 x.l[k].keys.length d5) (d4 := .slice b6 x.l[k].l.length d6) oL
            rw [hns] at this
            rw [List.append_assoc]
            exact this
          · rw [List.take_add_one, List.getElem?_eq_getElem hlt]
            refine RowV.append (ys := [x.l[k]]) ⟨_, _, _, _, _, [], rfl, (hr.weak (ok' := fun j => w.heap.size + 2 ≤ j ∧ some ⟨gl, 0, none⟩ ≠ some (⟨j, 0, none⟩ : Addr)) (fun j hj => ⟨by omega, fun e => by simp only [Option.some.injEq, Addr.mk.injEq, and_true] at e; omega⟩)).grown gs (fun j hj e => hj.2 (by rw [e])), rfl⟩ (I.out.2.2.2.2.2.imp fun y v hy => (hy.bel hb3).grown gs (fun j hj e => hj.2 (by rw [e])))
        clear g0 g1 g2 g3 g4 g5 hdrop
        go_upto_region 5 with fail
        go_region_with ((go_at_call 61; refine (con5.out _ (by rfl) (by rfl) (by rfl) (by rfl)).mono ?_; rintro e w2 ⟨b5, b6, d5, d6, rfl, hp4, hown, hfin⟩; obtain ⟨⟨t0, n0⟩, ⟨t1, n1⟩, ⟨t2, n2⟩, ⟨t3, n3⟩, ⟨t4, n4⟩, f0, f1, f2, f3, f4⟩ := hown; have FIN := hidI hfin; clear hfin))
        all_goals
          go_wp2_with fail
          go_roundg (x.l.length - (k + 1))
          case measure => rw [GK.out]; omega
          case rel => exact ⟨k + 1, hlt, rfl, by go_num, FIN.out _ rfl⟩
      · have hke : k = x.l.length := by omega
        subst hke
        obtain ⟨D, hD⟩ := row_depth I.out.2.2.2.2.2
        rw [List.take_length] at hD
        have oL := I.out.2.2.2.2.1
        rw [← hcs, List.drop_length, List.append_nil] at oL
        have hin : In wr (fun j => w.heap.size + 2 ≤ j) x (.agg #[.int .i64 x.kind, .int .i64 x.n, .string ⟨x.s.toArray⟩, .slice ka' x.keys.length kc', .slice la' x.l.length lc']) := ⟨D + 1, _, _, rfl, KK.out.1, KK.out.2.1, KK.out.2.2.1, own_strs rfl I.out.2.2.2.1 KK.out.2.2.2 (fun j hj => hj) (by unfold maxLen; omega), own_vals rfl oL (hD.imp fun _ _ h => h.weak fun j hj => hj.1) (fun j hj => hj) (by unfold maxLen; omega)⟩
        obtain ⟨p0, p1, p2, p3, p4, -⟩ := I.out.1.c
        obtain ⟨x0, x1, x2, x3, x4, y0, y1, y2, y3, y4⟩ := I.out.2.1.c
        have ZI := hidI ((hin.grown (set5_gb wr (w.heap.size + 1) (.int .i64 x.kind) (.int .i64 x.n) (.string ⟨x.s.toArray⟩) (.slice ka' x.keys.length kc') (.slice la' x.l.length lc')) (fun j hj e => by omega)).weak (ok' := fun j => w.heap.size ≤ j) (fun j hj => by omega))
        have ZW := hidI (bel_set5 I.out.2.2.1 (Nat.le_succ w.heap.size) (.int .i64 x.kind) (.int .i64 x.n) (.string ⟨x.s.toArray⟩) (.slice ka' x.keys.length kc') (.slice la' x.l.length lc'))
        have ZB := hidI (I.out.2.1.set (.int .i64 x.kind) (.int .i64 x.n) (.string ⟨x.s.toArray⟩) (.slice ka' x.keys.length kc') (.slice la' x.l.length lc'))
        clear hin oL hD
        go_wp2_with fail
        obtain ⟨z0, z1, z2, z3, z4, -⟩ := ZB.out.c
        refine bodyPost_ret (v := .agg #[.int .i64 x.kind, .int .i64 x.n, .string ⟨x.s.toArray⟩, .slice ka' x.keys.length kc', .slice la' x.l.length lc']) ?_ rfl ?_
        · simp only [set5] at z0 z1 z2 z3 z4
          simp [results, Tryd.results61, go_sem, z0, z1, z2, z3, z4]
        · exact ⟨_, rfl, ZW.out, ZI.out⟩
theorem twin_all (d : Nat) : TwinC d := by
  induction d with
  | zero => exact fun _ _ _ _ h _ => h.elim
  | succ d ih => exact twin_succ d ih
theorem twin_is (w : World) (ok : Nat → Prop) (x : V) (xv : Value) (h : In w ok x xv) (hn : Nice x) :
    Calls Tryd.prog 61 #[xv] w fun e w' => ∃ r, e = .returned r ∧ Below w.heap.size w w' ∧ In w' (fun k => w.heap.size ≤ k) x r := by
  obtain ⟨d, h⟩ := h; exact twin_all d w ok x xv h hn
theorem nice_get : ∀ (ns : List (List UInt8)) (t y : V), Nice t → getV ns t = some y → Nice y
  | [], t, y, ht, h => by rw [getV] at h; cases h; exact ht
  | s :: ns, t, y, ht, h => by
    rw [getV, Option.bind_eq_some_iff] at h
    obtain ⟨u, h1, h2⟩ := h
    exact nice_get ns u y (nice_meant ht h1) h2
end Go.Proofs.YtaifciobaapehaaDoor

set_option linter.unusedSimpArgs false
set_option linter.unusedVariables false
namespace Go.Proofs.YtaifciobaapehaaDoor
open Go.RowKit

set_option maxRecDepth 100000 in
set_option maxHeartbeats 40000000 in
theorem moved_is (w : World) (ok : Nat → Prop) (t : V) (v : Value) (frm dst : List UInt8) (h : In w ok t v) (hf : frm.length ≤ 140737488351232) (hd : dst.length ≤ 140737488351232) (hM : GlobM w) :
    Calls Tryd.prog 37 #[v, str frm, str dst] w fun e w' => ∃ r, e = .returned (.tuple #[r, .int .i64 (movedR t frm dst).2]) ∧ Below w.heap.size w w' ∧ In w' (okN ok w.heap.size) (movedR t frm dst).1 r := by
  have H := hidI h.low
  have HMM := hidI hM
  obtain ⟨l1, l2, l3⟩ := h.lens
  obtain ⟨a1, a2, c1, c2, rfl⟩ := h.form
  clear h hM
  have B2 : Hid (∀ o1 o2, Below w.heap.size w ((w.alloc o1).alloc o2)) := fun o1 o2 => bel_trans (bel_alloc _ _) (bel_alloc _ _)
  unfold str
  go_enter Tryd.func37, Tryd.ntmps37
  go_wp2_with fail
  refine (get_is _ (fun k => ok k ∧ k < w.heap.size) t _ frm (by exact H.out.bel (B2.out _ _)) hf (by exact HMM.out.bel (B2.out _ _))).mono ?_
  rintro e w1 ⟨r, rfl, hb1, hr⟩
  obtain ⟨g, hg⟩ : ∃ g, getR (splitP frm) t = g := ⟨_, rfl⟩
  rw [hg] at hr ⊢
  obtain ⟨x, xe⟩ := g
  simp only at hr ⊢
  obtain ⟨a7, a8, c7, c8, rfl⟩ := hr.form
  have HG := hidI hg
  have hbb := bel_trans hb1 (bel_alloc w1 (.cells #[.int .i64 x.kind, .int .i64 x.n, .string ⟨x.s.toArray⟩, .slice a7 x.keys.length c7, .slice a8 x.l.length c8] 25))
  have K : Hid (BoxIs (w1.alloc (.cells #[.int .i64 x.kind, .int .i64 x.n, .string ⟨x.s.toArray⟩, .slice a7 x.keys.length c7, .slice a8 x.l.length c8] 25)) w.heap.size (.int .i64 t.kind) (.int .i64 t.n) (.string ⟨t.s.toArray⟩) (.slice a1 t.keys.length c1) (.slice a2 t.l.length c2) ∧ BoxIs (w1.alloc (.cells #[.int .i64 x.kind, .int .i64 x.n, .string ⟨x.s.toArray⟩, .slice a7 x.keys.length c7, .slice a8 x.l.length c8] 25)) (w.heap.size + 1) (.int .i64 0) (.int .i64 0) (.string ⟨#[]⟩) (.slice none 0 0) (.slice none 0 0) ∧ Below w.heap.size w (w1.alloc (.cells #[.int .i64 x.kind, .int .i64 x.n, .string ⟨x.s.toArray⟩, .slice a7 x.keys.length c7, .slice a8 x.l.length c8] 25)) ∧ BoxIs (w1.alloc (.cells #[.int .i64 x.kind, .int .i64 x.n, .string ⟨x.s.toArray⟩, .slice a7 x.keys.length c7, .slice a8 x.l.length c8] 25)) w1.heap.size (.int .i64 x.kind) (.int .i64 x.n) (.string ⟨x.s.toArray⟩) (.slice a7 x.keys.length c7) (.slice a8 x.l.length c8) ∧ In (w1.alloc (.cells #[.int .i64 x.kind, .int .i64 x.n, .string ⟨x.s.toArray⟩, .slice a7 x.keys.length c7, .slice a8 x.l.length c8] 25)) (fun k => ok k ∧ k < w.heap.size) x (.agg #[.int .i64 x.kind, .int .i64 x.n, .string ⟨x.s.toArray⟩, .slice a7 x.keys.length c7, .slice a8 x.l.length c8])) := ⟨box_bel hbb (h2a w _ _), box_bel hbb (h2b w _ _), bel_trans (B2.out _ _) hbb, heap_alloc_new w1 _, hr.bel (bel_alloc _ _)⟩
  clear hg hr hb1 hbb
  by_cases hxe : xe = 0
  · subst hxe
    cases hpre : Lib.hasPrefix dst (frm ++ [47]) with
    | true =>
      have HPRE := hidI hpre
      clear hpre
      go_wp2_with fail
      have hpx := Tryd.strings_HasPrefix ⟨dst.toArray⟩ ⟨(frm ++ [47]).toArray⟩ (w1.alloc (.cells #[.int .i64 x.kind, .int .i64 x.n, .string ⟨x.s.toArray⟩, .slice a7 x.keys.length c7, .slice a8 x.l.length c8] 25))
      simp only [List.toList_toArray] at hpx
      rw [HPRE.out, ← ba_app] at hpx
      refine hpx.mono ?_
      rintro e w2 ⟨rfl, hw2⟩
      have K2 : Hid (BoxIs w2 w.heap.size (.int .i64 t.kind) (.int .i64 t.n) (.string ⟨t.s.toArray⟩) (.slice a1 t.keys.length c1) (.slice a2 t.l.length c2) ∧ BoxIs w2 (w.heap.size + 1) (.int .i64 0) (.int .i64 0) (.string ⟨#[]⟩) (.slice none 0 0) (.slice none 0 0) ∧ Below w.heap.size w w2) := by rw [hw2]; exact ⟨K.out.1, K.out.2.1, K.out.2.2.1⟩
      clear hw2 K hpx
      obtain ⟨p0, p1, p2, p3, p4, -⟩ := (K2.out.1).c
      obtain ⟨x0, x1, x2, x3, x4, y0, y1, y2, y3, y4⟩ := (K2.out.2.1).c
      have Z : Hid (_ ∧ _) := hidI (set_out (C := (w2).heap.size) (g := w.heap.size + 1) ((H.out.bel K2.out.2.2).weak (lowN_low (C := (w2).heap.size))) K2.out.2.2 (by omega) (K2.out.2.1).lt)
      have ZB : Hid _ := hidI ((K2.out.2.1).set (.int .i64 t.kind) (.int .i64 t.n) (.string ⟨t.s.toArray⟩) (.slice a1 t.keys.length c1) (.slice a2 t.l.length c2))
      have HA : Hid (movedR t frm dst = (t, 1)) := hidI (by unfold movedR; rw [HG.out]; simp only [ne_eq, not_true_eq_false, if_false, HPRE.out, if_true])
      clear K2
      go_wp2_with fail
      obtain ⟨z0, z1, z2, z3, z4, -⟩ := ZB.out.c
      refine bodyPost_ret (v := .tuple #[.agg #[.int .i64 t.kind, .int .i64 t.n, .string ⟨t.s.toArray⟩, .slice a1 t.keys.length c1, .slice a2 t.l.length c2], .int .i64 1]) ?_ rfl ?_
      · simp only [set5] at z0 z1 z2 z3 z4
        simp [results, Tryd.results37, go_sem, z0, z1, z2, z3, z4]
      · refine ⟨_, by rw [HA.out], Z.out.1, ?_⟩
        rw [HA.out]
        exact Z.out.2
    | false =>
      have HPRE := hidI hpre
      clear hpre
      go_wp2_with fail
      have hpx := Tryd.strings_HasPrefix ⟨dst.toArray⟩ ⟨(frm ++ [47]).toArray⟩ (w1.alloc (.cells #[.int .i64 x.kind, .int .i64 x.n, .string ⟨x.s.toArray⟩, .slice a7 x.keys.length c7, .slice a8 x.l.length c8] 25))
      simp only [List.toList_toArray] at hpx
      rw [HPRE.out, ← ba_app] at hpx
      refine hpx.mono ?_
      rintro e w2 ⟨rfl, hw2⟩
      have K2 : Hid (BoxIs w2 w.heap.size (.int .i64 t.kind) (.int .i64 t.n) (.string ⟨t.s.toArray⟩) (.slice a1 t.keys.length c1) (.slice a2 t.l.length c2) ∧ BoxIs w2 (w.heap.size + 1) (.int .i64 0) (.int .i64 0) (.string ⟨#[]⟩) (.slice none 0 0) (.slice none 0 0) ∧ Below w.heap.size w w2 ∧ BoxIs w2 w1.heap.size (.int .i64 x.kind) (.int .i64 x.n) (.string ⟨x.s.toArray⟩) (.slice a7 x.keys.length c7) (.slice a8 x.l.length c8) ∧ In w2 (fun k => ok k ∧ k < w.heap.size) x (.agg #[.int .i64 x.kind, .int .i64 x.n, .string ⟨x.s.toArray⟩, .slice a7 x.keys.length c7, .slice a8 x.l.length c8])) := by rw [hw2]; exact K.out
      clear hw2 K hpx
      by_cases hdf : dst = frm
      · have q1 : (dst == frm) = true := by rw [hdf]; simp
        have HDF := hidI hdf
        clear hdf
        obtain ⟨p0, p1, p2, p3, p4, -⟩ := (K2.out.1).c
        obtain ⟨x0, x1, x2, x3, x4, y0, y1, y2, y3, y4⟩ := (K2.out.2.1).c
        have Z : Hid (_ ∧ _) := hidI (set_out (C := (w2).heap.size) (g := w.heap.size + 1) ((H.out.bel K2.out.2.2.1).weak (lowN_low (C := (w2).heap.size))) K2.out.2.2.1 (by omega) (K2.out.2.1).lt)
        have ZB : Hid _ := hidI ((K2.out.2.1).set (.int .i64 t.kind) (.int .i64 t.n) (.string ⟨t.s.toArray⟩) (.slice a1 t.keys.length c1) (.slice a2 t.l.length c2))
        have HA : Hid (movedR t frm dst = (t, 0)) := hidI (by unfold movedR; rw [HG.out]; simp only [ne_eq, not_true_eq_false, if_false, HPRE.out]; rw [if_neg (by simp), if_pos HDF.out])
        clear K2
        go_wp2_with fail
        obtain ⟨z0, z1, z2, z3, z4, -⟩ := ZB.out.c
        refine bodyPost_ret (v := .tuple #[.agg #[.int .i64 t.kind, .int .i64 t.n, .string ⟨t.s.toArray⟩, .slice a1 t.keys.length c1, .slice a2 t.l.length c2], .int .i64 0]) ?_ rfl ?_
        · simp only [set5] at z0 z1 z2 z3 z4
          simp [results, Tryd.results37, go_sem, z0, z1, z2, z3, z4]
        · refine ⟨_, by rw [HA.out], Z.out.1, ?_⟩
          rw [HA.out]
          exact Z.out.2
      · have q1 : (dst == frm) = false := by rw [beq_eq_false_iff_ne]; exact hdf
        have HDF := hidI hdf
        clear hdf
        obtain ⟨p0, p1, p2, p3, p4, -⟩ := K2.out.1.c
        go_wp2_with fail
        refine (remove_is _ (fun k => ok k ∧ k < w.heap.size) t _ frm (by exact H.out.bel K2.out.2.2.1) hf (by exact HMM.out.bel K2.out.2.2.1)).mono ?_
        rintro e w3 ⟨r, rfl, hb3, hr⟩
        obtain ⟨g, hg⟩ : ∃ g, changeR removedV (splitP frm) t = g := ⟨_, rfl⟩
        rw [hg] at hr ⊢
        obtain ⟨y, ye⟩ := g
        simp only at hr ⊢
        obtain ⟨a5, a6, c5, c6, rfl⟩ := hr.form
        have HC := hidI hg
        have hbb := bel_trans hb3 (bel_alloc w3 (.cells #[.int .i64 y.kind, .int .i64 y.n, .string ⟨y.s.toArray⟩, .slice a5 y.keys.length c5, .slice a6 y.l.length c6] 25))
        have hsz2 := K2.out.2.1.lt
        have hsz2b := K2.out.2.2.2.1.lt
        have hsz3 := hb3.size
        have K3 : Hid (BoxIs (w3.alloc (.cells #[.int .i64 y.kind, .int .i64 y.n, .string ⟨y.s.toArray⟩, .slice a5 y.keys.length c5, .slice a6 y.l.length c6] 25)) w.heap.size (.int .i64 t.kind) (.int .i64 t.n) (.string ⟨t.s.toArray⟩) (.slice a1 t.keys.length c1) (.slice a2 t.l.length c2) ∧ BoxIs (w3.alloc (.cells #[.int .i64 y.kind, .int .i64 y.n, .string ⟨y.s.toArray⟩, .slice a5 y.keys.length c5, .slice a6 y.l.length c6] 25)) (w.heap.size + 1) (.int .i64 0) (.int .i64 0) (.string ⟨#[]⟩) (.slice none 0 0) (.slice none 0 0) ∧ Below w.heap.size w (w3.alloc (.cells #[.int .i64 y.kind, .int .i64 y.n, .string ⟨y.s.toArray⟩, .slice a5 y.keys.length c5, .slice a6 y.l.length c6] 25)) ∧ BoxIs (w3.alloc (.cells #[.int .i64 y.kind, .int .i64 y.n, .string ⟨y.s.toArray⟩, .slice a5 y.keys.length c5, .slice a6 y.l.length c6] 25)) w1.heap.size (.int .i64 x.kind) (.int .i64 x.n) (.string ⟨x.s.toArray⟩) (.slice a7 x.keys.length c7) (.slice a8 x.l.length c8) ∧ In (w3.alloc (.cells #[.int .i64 y.kind, .int .i64 y.n, .string ⟨y.s.toArray⟩, .slice a5 y.keys.length c5, .slice a6 y.l.length c6] 25)) (fun k => lowN ok w.heap.size w2.heap.size k ∧ k < w3.heap.size) x (.agg #[.int .i64 x.kind, .int .i64 x.n, .string ⟨x.s.toArray⟩, .slice a7 x.keys.length c7, .slice a8 x.l.length c8]) ∧ BoxIs (w3.alloc (.cells #[.int .i64 y.kind, .int .i64 y.n, .string ⟨y.s.toArray⟩, .slice a5 y.keys.length c5, .slice a6 y.l.length c6] 25)) w3.heap.size (.int .i64 y.kind) (.int .i64 y.n) (.string ⟨y.s.toArray⟩) (.slice a5 y.keys.length c5) (.slice a6 y.l.length c6) ∧ In (w3.alloc (.cells #[.int .i64 y.kind, .int .i64 y.n, .string ⟨y.s.toArray⟩, .slice a5 y.keys.length c5, .slice a6 y.l.length c6] 25)) (fun k => lowN ok w.heap.size w2.heap.size k ∧ k < w3.heap.size) y (.agg #[.int .i64 y.kind, .int .i64 y.n, .string ⟨y.s.toArray⟩, .slice a5 y.keys.length c5, .slice a6 y.l.length c6])) := ⟨box_bel hbb K2.out.1, box_bel hbb K2.out.2.1, bel_trans K2.out.2.2.1 hbb, box_bel hbb K2.out.2.2.2.1, (K2.out.2.2.2.2.bel hbb).weak (fun k hk => ⟨lowN_low k hk, by omega⟩), heap_alloc_new w3 _, hr.low.bel (bel_alloc _ _)⟩
        clear hg hr hb3 hbb p0 p1 p2 p3 p4 K2
        by_cases hye : ye = 0
        · subst hye
          obtain ⟨r0, r1, r2, r3, r4, -⟩ := K3.out.2.2.2.1.c
          obtain ⟨s0, s1, s2, s3, s4, -⟩ := K3.out.2.2.2.2.2.1.c
          go_wp2_with fail
          refine (add_is _ (fun k => lowN ok w.heap.size w2.heap.size k ∧ k < w3.heap.size) y x _ _ dst (by exact K3.out.2.2.2.2.2.2) (by exact K3.out.2.2.2.2.1) hd (by exact HMM.out.bel K3.out.2.2.1)).mono ?_
          rintro e w4 ⟨r, rfl, hb4, hr⟩
          obtain ⟨g, hg⟩ : ∃ g, layR addedV dst (splitP dst) y x = g := ⟨_, rfl⟩
          rw [hg] at hr ⊢
          obtain ⟨z, ze⟩ := g
          simp only at hr ⊢
          obtain ⟨a3, a4, c3, c4, rfl⟩ := hr.form
          have HL := hidI hg
          have hsz4 := hb4.size
          have hszA : (w3.alloc (.cells #[.int .i64 y.kind, .int .i64 y.n, .string ⟨y.s.toArray⟩, .slice a5 y.keys.length c5, .slice a6 y.l.length c6] 25)).heap.size = w3.heap.size + 1 := by simp
          have bx4 := box_bel hb4 K3.out.2.2.2.2.2.1
          obtain ⟨s0, s1, s2, s3, s4, s5, s6, s7, s8, s9⟩ := bx4.c
          have g4 := set5_gb w4 w3.heap.size (.int .i64 z.kind) (.int .i64 z.n) (.string ⟨z.s.toArray⟩) (.slice a3 z.keys.length c3) (.slice a4 z.l.length c4)
          have K4 : Hid (BoxIs (set5 w4 w3.heap.size (.int .i64 z.kind) (.int .i64 z.n) (.string ⟨z.s.toArray⟩) (.slice a3 z.keys.length c3) (.slice a4 z.l.length c4)) w.heap.size (.int .i64 t.kind) (.int .i64 t.n) (.string ⟨t.s.toArray⟩) (.slice a1 t.keys.length c1) (.slice a2 t.l.length c2) ∧ BoxIs (set5 w4 w3.heap.size (.int .i64 z.kind) (.int .i64 z.n) (.string ⟨z.s.toArray⟩) (.slice a3 z.keys.length c3) (.slice a4 z.l.length c4)) (w.heap.size + 1) (.int .i64 0) (.int .i64 0) (.string ⟨#[]⟩) (.slice none 0 0) (.slice none 0 0) ∧ Below w.heap.size w (set5 w4 w3.heap.size (.int .i64 z.kind) (.int .i64 z.n) (.string ⟨z.s.toArray⟩) (.slice a3 z.keys.length c3) (.slice a4 z.l.length c4)) ∧ BoxIs (set5 w4 w3.heap.size (.int .i64 z.kind) (.int .i64 z.n) (.string ⟨z.s.toArray⟩) (.slice a3 z.keys.length c3) (.slice a4 z.l.length c4)) w3.heap.size (.int .i64 z.kind) (.int .i64 z.n) (.string ⟨z.s.toArray⟩) (.slice a3 z.keys.length c3) (.slice a4 z.l.length c4) ∧ In (set5 w4 w3.heap.size (.int .i64 z.kind) (.int .i64 z.n) (.string ⟨z.s.toArray⟩) (.slice a3 z.keys.length c3) (.slice a4 z.l.length c4)) (okN (fun k => lowN ok w.heap.size w2.heap.size k ∧ k < w3.heap.size) (w3.heap.size + 1)) z (.agg #[.int .i64 z.kind, .int .i64 z.n, .string ⟨z.s.toArray⟩, .slice a3 z.keys.length c3, .slice a4 z.l.length c4])) := by
            have hne : ∀ k, okN (fun k => lowN ok w.heap.size w2.heap.size k ∧ k < w3.heap.size) (w3.heap.size + 1) k → k ≠ w3.heap.size := by
              intro k hk e
              rcases hk with hk | hk <;> omega
            exact ⟨(box_bel hb4 K3.out.1).grown g4 (by simp; omega), (box_bel hb4 K3.out.2.1).grown g4 (by simp; omega), bel_set5 (bel_trans K3.out.2.2.1 hb4) (by omega) _ _ _ _ _, bx4.set _ _ _ _ _, (hr.weak (fun k hk => by rw [hszA] at hk; exact hk)).grown g4 hne⟩
          clear hg hr hb4 bx4 g4 r0 r1 r2 r3 r4 K3
          by_cases hze : ze = 0
          · subst hze
            have HA : Hid (movedR t frm dst = (z, 0)) := hidI (by unfold movedR; rw [HG.out, HC.out]; simp only [ne_eq, not_true_eq_false, if_false, HPRE.out, HL.out]; rw [if_neg (by simp), if_neg HDF.out])
            obtain ⟨n0, n1, n2, n3, n4, -⟩ := K4.out.2.2.2.1.c
            obtain ⟨x0, x1, x2, x3, x4, y0, y1, y2, y3, y4⟩ := K4.out.2.1.c
            have ZI := hidI ((K4.out.2.2.2.2.grown (set5_gb (set5 w4 w3.heap.size (.int .i64 z.kind) (.int .i64 z.n) (.string ⟨z.s.toArray⟩) (.slice a3 z.keys.length c3) (.slice a4 z.l.length c4)) (w.heap.size + 1) (.int .i64 z.kind) (.int .i64 z.n) (.string ⟨z.s.toArray⟩) (.slice a3 z.keys.length c3) (.slice a4 z.l.length c4)) (fun k hk e => by
              rcases hk with hk | hk
              · exact lowN_ne (by omega) hsz2 k hk.1 e
              · omega)).weak (ok' := okN ok w.heap.size) (fun k hk => by
              rcases hk with hk | hk
              · exact lowN_out (by omega) k hk.1
              · exact .inr (by omega)))
            have ZW := hidI (bel_set5 K4.out.2.2.1 (Nat.le_succ w.heap.size) (.int .i64 z.kind) (.int .i64 z.n) (.string ⟨z.s.toArray⟩) (.slice a3 z.keys.length c3) (.slice a4 z.l.length c4))
            have ZB := hidI (K4.out.2.1.set (.int .i64 z.kind) (.int .i64 z.n) (.string ⟨z.s.toArray⟩) (.slice a3 z.keys.length c3) (.slice a4 z.l.length c4))
            clear K4
            simp only [set5] at n0 n1 n2 n3 n4 x0 x1 x2 x3 x4 y0 y1 y2 y3 y4
            go_wp2_with fail
            obtain ⟨z0, z1, z2, z3, z4, -⟩ := ZB.out.c
            refine bodyPost_ret (v := .tuple #[.agg #[.int .i64 z.kind, .int .i64 z.n, .string ⟨z.s.toArray⟩, .slice a3 z.keys.length c3, .slice a4 z.l.length c4], .int .i64 0]) ?_ rfl ?_
            · simp only [set5] at z0 z1 z2 z3 z4
              simp [results, Tryd.results37, go_sem, z0, z1, z2, z3, z4]
            · refine ⟨_, by rw [HA.out], ZW.out, ?_⟩
              rw [HA.out]
              exact ZI.out
          · have e3 : (ze != 0) = true := by rw [bne_iff_ne]; exact hze
            have e4 : (ze == 0) = false := by rw [beq_eq_false_iff_ne]; exact hze
            have HZE := hidI hze
            clear hze
            obtain ⟨p0, p1, p2, p3, p4, -⟩ := (K4.out.1).c
            obtain ⟨x0, x1, x2, x3, x4, y0, y1, y2, y3, y4⟩ := (K4.out.2.1).c
            have Z : Hid (_ ∧ _) := hidI (set_out (C := ((set5 w4 w3.heap.size (.int .i64 z.kind) (.int .i64 z.n) (.string ⟨z.s.toArray⟩) (.slice a3 z.keys.length c3) (.slice a4 z.l.length c4))).heap.size) (g := w.heap.size + 1) ((H.out.bel K4.out.2.2.1).weak (lowN_low (C := ((set5 w4 w3.heap.size (.int .i64 z.kind) (.int .i64 z.n) (.string ⟨z.s.toArray⟩) (.slice a3 z.keys.length c3) (.slice a4 z.l.length c4))).heap.size))) K4.out.2.2.1 (by omega) (K4.out.2.1).lt)
            have ZB : Hid _ := hidI ((K4.out.2.1).set (.int .i64 t.kind) (.int .i64 t.n) (.string ⟨t.s.toArray⟩) (.slice a1 t.keys.length c1) (.slice a2 t.l.length c2))
            have HA : Hid (movedR t frm dst = (t, ze)) := hidI (by unfold movedR; rw [HG.out, HC.out]; simp only [ne_eq, not_true_eq_false, if_false, HPRE.out, HL.out]; rw [if_neg (by simp), if_neg HDF.out, if_pos HZE.out])
            clear K4
            simp only [set5] at p0 p1 p2 p3 p4 x0 x1 x2 x3 x4 y0 y1 y2 y3 y4
            go_wp2_with fail
            obtain ⟨z0, z1, z2, z3, z4, -⟩ := ZB.out.c
            refine bodyPost_ret (v := .tuple #[.agg #[.int .i64 t.kind, .int .i64 t.n, .string ⟨t.s.toArray⟩, .slice a1 t.keys.length c1, .slice a2 t.l.length c2], .int .i64 ze]) ?_ rfl ?_
            · simp only [set5] at z0 z1 z2 z3 z4
              simp [results, Tryd.results37, go_sem, z0, z1, z2, z3, z4]
            · refine ⟨_, by rw [HA.out], Z.out.1, ?_⟩
              rw [HA.out]
              exact Z.out.2
        · have e3 : (ye != 0) = true := by rw [bne_iff_ne]; exact hye
          have e4 : (ye == 0) = false := by rw [beq_eq_false_iff_ne]; exact hye
          have HYE := hidI hye
          clear hye
          obtain ⟨p0, p1, p2, p3, p4, -⟩ := (K3.out.1).c
          obtain ⟨x0, x1, x2, x3, x4, y0, y1, y2, y3, y4⟩ := (K3.out.2.1).c
          have Z : Hid (_ ∧ _) := hidI (set_out (C := ((w3.alloc (.cells #[.int .i64 y.kind, .int .i64 y.n, .string ⟨y.s.toArray⟩, .slice a5 y.keys.length c5, .slice a6 y.l.length c6] 25))).heap.size) (g := w.heap.size + 1) ((H.out.bel K3.out.2.2.1).weak (lowN_low (C := ((w3.alloc (.cells #[.int .i64 y.kind, .int .i64 y.n, .string ⟨y.s.toArray⟩, .slice a5 y.keys.length c5, .slice a6 y.l.length c6] 25))).heap.size))) K3.out.2.2.1 (by omega) (K3.out.2.1).lt)
          have ZB : Hid _ := hidI ((K3.out.2.1).set (.int .i64 t.kind) (.int .i64 t.n) (.string ⟨t.s.toArray⟩) (.slice a1 t.keys.length c1) (.slice a2 t.l.length c2))
          have HA : Hid (movedR t frm dst = (t, ye)) := hidI (by unfold movedR; rw [HG.out, HC.out]; simp only [ne_eq, not_true_eq_false, if_false, HPRE.out]; rw [if_neg (by simp), if_neg HDF.out, if_pos HYE.out])
          clear K3
          go_wp2_with fail
          obtain ⟨z0, z1, z2, z3, z4, -⟩ := ZB.out.c
          refine bodyPost_ret (v := .tuple #[.agg #[.int .i64 t.kind, .int .i64 t.n, .string ⟨t.s.toArray⟩, .slice a1 t.keys.length c1, .slice a2 t.l.length c2], .int .i64 ye]) ?_ rfl ?_
          · simp only [set5] at z0 z1 z2 z3 z4
            simp [results, Tryd.results37, go_sem, z0, z1, z2, z3, z4]
          · refine ⟨_, by rw [HA.out], Z.out.1, ?_⟩
            rw [HA.out]
            exact Z.out.2
  · have e1 : (xe != 0) = true := by rw [bne_iff_ne]; exact hxe
    have e2 : (xe == 0) = false := by rw [beq_eq_false_iff_ne]; exact hxe
    have HXE := hidI hxe
    clear hxe
    obtain ⟨p0, p1, p2, p3, p4, -⟩ := (K.out.1).c
    obtain ⟨x0, x1, x2, x3, x4, y0, y1, y2, y3, y4⟩ := (K.out.2.1).c
    have Z : Hid (_ ∧ _) := hidI (set_out (C := ((w1.alloc (.cells #[.int .i64 x.kind, .int .i64 x.n, .string ⟨x.s.toArray⟩, .slice a7 x.keys.length c7, .slice a8 x.l.length c8] 25))).heap.size) (g := w.heap.size + 1) ((H.out.bel K.out.2.2.1).weak (lowN_low (C := ((w1.alloc (.cells #[.int .i64 x.kind, .int .i64 x.n, .string ⟨x.s.toArray⟩, .slice a7 x.keys.length c7, .slice a8 x.l.length c8] 25))).heap.size))) K.out.2.2.1 (by omega) (K.out.2.1).lt)
    have ZB : Hid _ := hidI ((K.out.2.1).set (.int .i64 t.kind) (.int .i64 t.n) (.string ⟨t.s.toArray⟩) (.slice a1 t.keys.length c1) (.slice a2 t.l.length c2))
    have HA : Hid (movedR t frm dst = (t, xe)) := hidI (by unfold movedR; rw [HG.out, if_pos HXE.out])
    clear K
    go_wp2_with fail
    obtain ⟨z0, z1, z2, z3, z4, -⟩ := ZB.out.c
    refine bodyPost_ret (v := .tuple #[.agg #[.int .i64 t.kind, .int .i64 t.n, .string ⟨t.s.toArray⟩, .slice a1 t.keys.length c1, .slice a2 t.l.length c2], .int .i64 xe]) ?_ rfl ?_
    · simp only [set5] at z0 z1 z2 z3 z4
      simp [results, Tryd.results37, go_sem, z0, z1, z2, z3, z4]
    · refine ⟨_, by rw [HA.out], Z.out.1, ?_⟩
      rw [HA.out]
      exact Z.out.2

end Go.Proofs.YtaifciobaapehaaDoor
