/- What FirstStatus and SameSpec of package stairwellref do. -/
import Derived.Test.YtaaaogiheplbmaaHn
import Derived.Test.YtaaaogiheplbmaaRu
import Derived.Deep.DrawnRows
import Derived.Deep.DeepCutAuto
set_option linter.unusedSimpArgs false
set_option linter.unusedVariables false
namespace Go.Proofs.Ytaaaogiheplbmaa
open Go.RowKit

set_option maxRecDepth 100000 in
set_option maxHeartbeats 1000000 in
theorem rfirst_at (w : World) (g : List UInt8) (l : List Stp) (v : Value) (h : StpsAre w l v) (hg : g.length ≤ 9223372036854775807) :
    Calls Try.prog 8 #[.agg #[.string ⟨g.toArray⟩, v]] w fun e w' => e = .returned (.tuple #[staV (firstF g l).1, .int .i64 (firstF g l).2]) ∧ Below w.heap.size w w' := by
  obtain ⟨a, c, rfl⟩ := h.form
  have H := hidI h
  have G := hidI hg
  clear h hg
  cases hs : specOk g l with
  | true =>
    rw [show firstF g l = (healthyS g, 0) by rw [firstF, if_pos hs]]
    go_enter Try.func8, Try.ntmps8
    go_wp2_with (first
      | (go_at_call 23; refine (rhealthy_b _ g).mono ?_; rintro e w2 ⟨rfl, hb2⟩; have S2 := hidI (S0.out.bel hb2); have HB2 := hidI (bel_trans HB.out hb2); obtain ⟨c0, c1, c2, c3, c4, c5, d0, d1, d2, d3, d4, d5⟩ := S2.out.c; clear hb2)
      | (go_at_call 13; refine (rspec_at _ g l _ (H.out.bel (bel_trans (bel_alloc _ _) (bel_alloc _ _))) G.out).mono ?_; rintro e w1 ⟨rfl, hb⟩; rw [hs]; obtain ⟨p0, p1⟩ := PBox.c (PBox.bel (i := g) (h2a w _ _) hb); have S0 := hidI (SBox.bel (s := zeroS) (h2b w _ _) hb)
         have HB : Hid (Below w.heap.size w w1) := hidI (bel_trans (bel_trans (bel_alloc _ _) (bel_alloc _ _)) hb)
         clear hb))
    obtain ⟨z0, z1, z2, z3, z4, z5, -⟩ := (S2.out.set (healthyS g)).c
    refine bodyPost_ret (v := .tuple #[staV (healthyS g), .int .i64 0]) ?_ rfl ⟨rfl, bel_set6 HB2.out (by omega) (healthyS g)⟩
    simp only [set6, healthyS] at z0 z1 z2 z3 z4 z5
    simp [results, Try.results8, go_sem, z0, z1, z2, z3, z4, z5, staV, healthyS]
  | false =>
    rw [show firstF g l = (zeroS, 1) by rw [firstF, if_neg (by simp [hs])]; rfl]
    go_enter Try.func8, Try.ntmps8
    go_wp2_with (go_at_call 13; refine (rspec_at _ g l _ (H.out.bel (bel_trans (bel_alloc _ _) (bel_alloc _ _))) G.out).mono ?_; rintro e w1 ⟨rfl, hb⟩; rw [hs]; have S0 := hidI (SBox.bel (s := zeroS) (h2b w _ _) hb); have HB : Hid (Below w.heap.size w w1) := hidI (bel_trans (bel_trans (bel_alloc _ _) (bel_alloc _ _)) hb); obtain ⟨c0, c1, c2, c3, c4, c5, d0, d1, d2, d3, d4, d5⟩ := S0.out.c; clear hb)
    obtain ⟨z0, z1, z2, z3, z4, z5, -⟩ := (S0.out.set zeroS).c
    refine bodyPost_ret (v := .tuple #[staV zeroS, .int .i64 1]) ?_ rfl ⟨rfl, bel_set6 HB.out (by omega) zeroS⟩
    simp only [set6, zeroS] at z0 z1 z2 z3 z4 z5
    simp [results, Try.results8, go_sem, z0, z1, z2, z3, z4, z5, staV, zeroS]

set_option maxRecDepth 100000 in
set_option maxHeartbeats 4000000 in
theorem rsameSpec_at (w : World) (g : List UInt8) (l : List Stp) (v u : Value) (h : StpsAre w l v) (h2 : StpsAre w l u) :
    Calls Try.prog 9 #[.agg #[.string ⟨g.toArray⟩, v], .agg #[.string ⟨g.toArray⟩, u]] w fun e w' => e = .returned (.bool true) ∧ Below w.heap.size w w' := by
  obtain ⟨a, c, rfl⟩ := h.form
  obtain ⟨b, d, rfl⟩ := h2.form
  have H := hidI h
  have H2 := hidI h2
  have ll := h.1
  have P0 : Hid (∀ o1 o2, o1 = .cells #[.string ⟨g.toArray⟩, .slice a l.length c] 28 → o2 = .cells #[.string ⟨g.toArray⟩, .slice b l.length d] 28 → PBox ((w.alloc o1).alloc o2) w.heap.size g (.slice a l.length c) ∧ PBox ((w.alloc o1).alloc o2) (w.heap.size + 1) g (.slice b l.length d) ∧ Below w.heap.size w ((w.alloc o1).alloc o2)) := hidI (fun o1 o2 e1 e2 => by
    subst e1
    subst e2
    exact ⟨h2a w _ _, h2b w _ _, bel_trans (bel_alloc _ _) (bel_alloc _ _)⟩)
  clear h h2
  go_enter Try.func9, Try.ntmps9
  go_wp2_with fail
  go_loopg [5, 23] l.length (fun gk _ i wr => ∃ k : Nat, k ≤ l.length ∧ Hid (gk = l.length - k) ∧ i = .int .i64 k ∧ Hid (PBox wr w.heap.size g (.slice a l.length c) ∧ PBox wr (w.heap.size + 1) g (.slice b l.length d) ∧ Below w.heap.size w wr))
  case atStart => exact ⟨0, Nat.zero_le _, hidI rfl, rfl, hidI (P0.out _ _ rfl rfl)⟩
  case round =>
    obtain ⟨k, hk, GK, rfl, P1⟩ := hrel
    obtain ⟨p0, p1⟩ := P1.out.1.c
    obtain ⟨q0, q1⟩ := P1.out.2.1.c
    by_cases hlt : k < l.length
    · obtain ⟨xb, xo, rfl, j1, j2, k1, k2⟩ := stps_at H.out hlt
      obtain ⟨yb, yo, rfl, j3, j4, k3, k4⟩ := stps_at H2.out hlt
      have m1 := cell_bel P1.out.2.2 k1
      have m2 := cell_bel P1.out.2.2 k2
      have m3 := cell_bel P1.out.2.2 k3
      have m4 := cell_bel P1.out.2.2 k4
      have w1 : (k : Int) < (l.length : Int) := by omega
      have w2 : (0 : Int) ≤ (k : Int) := by omega
      clear k1 k2 k3 k4
      have hmix : Try.prog.follows .mixedOrders = true := by kernel_rfl
      go_wp2_with fail
      go_quiet (fail)
      all_goals
        go_wp2_with fail
        go_roundg (l.length - (k + 1))
        case measure => rw [GK.out]; omega
        case rel => exact ⟨k + 1, hlt, hidI rfl, by go_num, hidI ⟨P1.out.1.bel (bel_drewN _ _), P1.out.2.1.bel (bel_drewN _ _), bel_trans P1.out.2.2 (bel_drewN _ _)⟩⟩
    · have d1 : ¬ (k : Int) < (l.length : Int) := by omega
      go_wp2_with fail
      go_ret
      exact ⟨rfl, P1.out.2.2⟩
end Go.Proofs.Ytaaaogiheplbmaa
