/- What Same of package json does. -/
import Derived.Test.YtfbddgpekbhpfacGreatDoorSl
set_option linter.unusedSimpArgs false
set_option linter.unusedVariables false
namespace Go.Proofs.YtfbddgpekbhpfacGreatDoor
open Go.RowKit

set_option maxRecDepth 100000 in
set_option maxHeartbeats 40000000 in
theorem same_run (w : World) (ok ok' : Nat → Prop) (a b : V) (va vb : Value) (ha : In w ok a va) (hb : In w ok' b vb) (hN : cnt a ≤ 2000000000000) :
    Calls Tryz.prog 30 #[va, vb] w fun e w' => SameP w a b e w' := by
  have HA := hidI ha
  have HB := hidI hb
  obtain ⟨a1, a2, c1, c2, rfl⟩ := ha.form
  obtain ⟨a3, a4, c3, c4, rfl⟩ := hb.form
  clear ha hb
  go_enter Tryz.func30, Tryz.ntmps30
  go_upto_region 1 with fail
  go_cut [5, 6] (fun lv rv wc => ∃ ia ib, SI w ok ok' ia ib [[a]] [[b]] lv rv wc)
  case first =>
    go_region
    all_goals
      go_wp2_with fail
      go_meet
      case rel =>
        first
          | exact ⟨w.heap.size + 2, w.heap.size + 4, si_start HA.out HB.out (by repeat (first | exact Below.refl _ _ | refine bel_dr ?_ | refine bel_al ?_ _)) (heap_at6 w _ _ _ _ _ _ 3 (by decide)) (heap_at6 w _ _ _ _ _ _ 5 (by decide)) (heap_at6 w _ _ _ _ _ _ 2 (by decide)) (heap_at6 w _ _ _ _ _ _ 4 (by decide)) (by refine ⟨?_, ?_, ?_, ?_, ?_, ?_, ?_⟩ <;> omega)⟩
          | exact ⟨w.heap.size + 2, w.heap.size + 3, si_start HA.out HB.out (by repeat (first | exact Below.refl _ _ | refine bel_dr ?_ | refine bel_al ?_ _)) (heap_at6 w _ _ _ _ _ _ 4 (by decide)) (heap_at6 w _ _ _ _ _ _ 5 (by decide)) (heap_at6 w _ _ _ _ _ _ 2 (by decide)) (heap_at6 w _ _ _ _ _ _ 3 (by decide)) (by refine ⟨?_, ?_, ?_, ?_, ?_, ?_, ?_⟩ <;> omega)⟩
          | exact ⟨w.heap.size + 2, w.heap.size + 3, si_start HA.out HB.out (by repeat (first | exact Below.refl _ _ | refine bel_dr ?_ | refine bel_al ?_ _)) (heap_at6 w _ _ _ _ _ _ 5 (by decide)) (heap_at6 w _ _ _ _ _ _ 4 (by decide)) (heap_at6 w _ _ _ _ _ _ 2 (by decide)) (heap_at6 w _ _ _ _ _ _ 3 (by decide)) (by refine ⟨?_, ?_, ?_, ?_, ?_, ?_, ?_⟩ <;> omega)⟩
          | exact ⟨w.heap.size + 3, w.heap.size + 2, si_start HA.out HB.out (by repeat (first | exact Below.refl _ _ | refine bel_dr ?_ | refine bel_al ?_ _)) (heap_at6 w _ _ _ _ _ _ 4 (by decide)) (heap_at6 w _ _ _ _ _ _ 5 (by decide)) (heap_at6 w _ _ _ _ _ _ 3 (by decide)) (heap_at6 w _ _ _ _ _ _ 2 (by decide)) (by refine ⟨?_, ?_, ?_, ?_, ?_, ?_, ?_⟩ <;> omega)⟩
          | exact ⟨w.heap.size + 3, w.heap.size + 2, si_start HA.out HB.out (by repeat (first | exact Below.refl _ _ | refine bel_dr ?_ | refine bel_al ?_ _)) (heap_at6 w _ _ _ _ _ _ 5 (by decide)) (heap_at6 w _ _ _ _ _ _ 4 (by decide)) (heap_at6 w _ _ _ _ _ _ 3 (by decide)) (heap_at6 w _ _ _ _ _ _ 2 (by decide)) (by refine ⟨?_, ?_, ?_, ?_, ?_, ?_, ?_⟩ <;> omega)⟩
          | exact ⟨w.heap.size + 4, w.heap.size + 2, si_start HA.out HB.out (by repeat (first | exact Below.refl _ _ | refine bel_dr ?_ | refine bel_al ?_ _)) (heap_at6 w _ _ _ _ _ _ 5 (by decide)) (heap_at6 w _ _ _ _ _ _ 3 (by decide)) (heap_at6 w _ _ _ _ _ _ 4 (by decide)) (heap_at6 w _ _ _ _ _ _ 2 (by decide)) (by refine ⟨?_, ?_, ?_, ?_, ?_, ?_, ?_⟩ <;> omega)⟩
  case rest =>
    obtain ⟨ia, ib, hS⟩ := hcut
    have S0 := hidI hS
    clear hS
    go_wp2_with fail
    go_loopg [5, 6] (1 + cnt a) (fun gk lv rv wr => ∃ ls rs, (a = b ↔ ls = rs) ∧ PL ls rs ∧ gk = mu ls ∧ mu ls ≤ 2000000000001 ∧ SI w ok ok' ia ib ls rs lv rv wr)
    case atStart => exact ⟨[[a]], [[b]], ⟨fun e => by rw [e], fun e => by simpa using e⟩, ⟨rfl, fun j l r h1 h2 => by cases j <;> simp at h1 h2; rw [← h1, ← h2]; rfl⟩, by simp [mu, cnts_nil, cnts_cons], by simp [mu, cnts_nil, cnts_cons]; omega, S0.out⟩
    case round =>
      obtain ⟨ls, rs, hiff, hpl, hgk, hM, hSI⟩ := hrel
      rcases ends ls with rfl | ⟨ms, xs, rfl⟩
      · obtain ⟨gL, gR, cL, cR, rfl, rfl, hSE⟩ := hSI
        have hSB := hSE.2.2.2.2.2.2.2.2.2
        have R : Hid (a = b ∧ Below w.heap.size w wr) := hidI ⟨hiff.2 (List.eq_nil_of_length_eq_zero (by simpa using hpl.1)).symm, hSB⟩
        clear hiff hpl hgk hM hSE hSB
        have e0 : ([] : List (List V)).length = 0 := rfl
        rw [e0]
        go_wp2_with fail
        go_ret
        exact ⟨true, rfl, ⟨fun _ => R.out.1, fun _ => rfl⟩, R.out.2⟩
      · obtain ⟨qs, ys, rfl, hpl', hxy⟩ := hpl.pop
        obtain ⟨gL, gR, cL, cR, rfl, rfl, hL, hR, n1, n2, n3, n4, n5, n6, n7, hBw⟩ := hSI
        obtain ⟨xv, px, vx, hL'⟩ := hL.pop
        obtain ⟨yv, py, vy, hR'⟩ := hR.pop
        obtain ⟨M, hgM⟩ : ∃ M, gk = M := ⟨_, rfl⟩
        rw [hgM] at hgk
        have GKM := hidI hgM
        clear hgM
        have hq : qs.length = ms.length := hpl'.1
        rw [hq] at py
        have J0 : Hid (SJ w ok ok' ia ib a b xs ys xv yv M 0 (.slice (some ⟨gL, 0, none⟩) ms.length cL) (.slice (some ⟨gR, 0, none⟩) ms.length cR) wr) := hidI ⟨ms, qs, by rw [hiff, snoc_both]; simp, hpl', by rw [hgk, mu_push]; simp; omega, by omega, vx, vy, gL, gR, cL, cR, rfl, by rw [hq], hL', hR', n1, n2, n3, n4, n5, n6, n7, hBw⟩
        have zL := hL.cap
        have zR := hR.cap
        have eL : (ms ++ [xs]).length = ms.length + 1 := by simp
        have eR : (qs ++ [ys]).length = ms.length + 1 := by simp [hq]
        rw [eL] at zL ⊢
        rw [eR] at zR ⊢
        obtain ⟨z1, z2⟩ := zL
        obtain ⟨z3, z4⟩ := zR
        obtain ⟨xa, xc, rfl⟩ := vx.form
        obtain ⟨ya, yc, rfl⟩ := vy.form
        have lx := vx.len
        have HXY := hidI hxy
        have GM : Hid (M ≤ 2000000000001) := hidI (by rw [hgk]; exact hM)
        clear hiff hpl hpl' hL hR hL' hR' hgk hM vx vy n1 n2 n3 n4 n5 n6 n7 hBw eL eR hq hxy
        have y1 : (0 : Int) ≤ (ms.length : Int) := by omega
        have y2 : (ms.length : Int) < ((ms.length + 1 : Nat) : Int) := by omega
        have y3 : (ms.length : Int) ≤ (cL : Int) := by omega
        have y4 : (ms.length : Int) ≤ (cR : Int) := by omega
        go_wp2_with fail
        go_quiet (fail)
        go_wp2_with fail
        go_quiet (fail)
        go_wp2_with fail
        go_loopg [5, 6, 39] xs.length (fun gi lv rv i wi => ∃ k : Nat, k ≤ xs.length ∧ gi = xs.length - k ∧ i = .int .i64 k ∧ SJ w ok ok' ia ib a b xs ys (.slice xa xs.length xc) (.slice ya ys.length yc) M k lv rv wi)
        case atStart => exact ⟨0, Nat.zero_le _, rfl, rfl, by first | exact J0.out | exact J0.out.bel (bel_drewN _ _) | exact J0.out.bel (Below.refl _ _)⟩
        case round =>
          obtain ⟨k, hk, hgi, rfl, ls, rs, i1, i2, i3, i4, i5, i6, gL', gR', cL', cR', rfl, rfl, i7⟩ := hrel
          have GI := hidI hgi
          have J : Hid ((a = b ↔ ls = rs ∧ xs.drop k = ys.drop k) ∧ PL ls rs ∧ mu ls + cnts (xs.drop k) + 1 ≤ M ∧ ValsIn wr (okX ok w.heap.size ia) xs (.slice xa xs.length xc) ∧ ValsIn wr (okX ok' w.heap.size ib) ys (.slice ya ys.length yc) ∧ SE w ok ok' ia ib ls rs gL' gR' cL' cR' wr) := hidI ⟨i1, i2, i3, i5, i6, i7⟩
          clear hgi i1 i2 i3 i4 i7
          by_cases hlt : k < xs.length
          · have hlt' : k < ys.length := by have := HXY.out; omega
            obtain ⟨xb, xo, p5, q5, p6, q6, rfl, x1, x2, g0, g1, g2, g3, g4, g5⟩ := i5.item hlt
            obtain ⟨yb, yo, p7, q7, p8, q8, rfl, x3, x4, f0, f1, f2, f3, f4, f5⟩ := i6.item hlt'
            clear i5 i6
            have w1 : (0 : Int) ≤ (k : Int) := by omega
            have w2 : (k : Int) < (xs.length : Int) := by omega
            have w3 : (k : Int) < (ys.length : Int) := by omega
            have CALL : Hid (∀ w', Below wr.heap.size wr w' → Calls Tryz.prog 40 #[.agg #[.int .i64 xs[k].kind, .int .i64 xs[k].n, .string ⟨xs[k].s.toArray⟩, .slice p5 xs[k].keys.length q5, .slice p6 xs[k].l.length q6], .agg #[.int .i64 ys[k].kind, .int .i64 ys[k].n, .string ⟨ys[k].s.toArray⟩, .slice p7 ys[k].keys.length q7, .slice p8 ys[k].l.length q8]] w' fun e w4 => e = .returned (.bool (aliked xs[k] ys[k])) ∧ Below wr.heap.size wr w4 ∧
                w4.cell? ⟨xb, xo + k * 5, none⟩ = some (.int .i64 xs[k].kind) ∧ w4.cell? ⟨xb, xo + k * 5 + 1, none⟩ = some (.int .i64 xs[k].n) ∧ w4.cell? ⟨xb, xo + k * 5 + 2, none⟩ = some (.string ⟨xs[k].s.toArray⟩) ∧ w4.cell? ⟨xb, xo + k * 5 + 3, none⟩ = some (.slice p5 xs[k].keys.length q5) ∧ w4.cell? ⟨xb, xo + k * 5 + 4, none⟩ = some (.slice p6 xs[k].l.length q6) ∧ w4.cell? ⟨yb, yo + k * 5, none⟩ = some (.int .i64 ys[k].kind) ∧ w4.cell? ⟨yb, yo + k * 5 + 1, none⟩ = some (.int .i64 ys[k].n) ∧ w4.cell? ⟨yb, yo + k * 5 + 2, none⟩ = some (.string ⟨ys[k].s.toArray⟩) ∧ w4.cell? ⟨yb, yo + k * 5 + 3, none⟩ = some (.slice p7 ys[k].keys.length q7) ∧ w4.cell? ⟨yb, yo + k * 5 + 4, none⟩ = some (.slice p8 ys[k].l.length q8)) := by
              intro w' hb'
              refine (alike_is w' _ _ xs[k] ys[k] _ _ (g5.bel hb') (f5.bel hb')).mono ?_
              rintro e w4 ⟨rfl, hb4⟩
              have hb5 := bel_trans hb' hb4
              exact ⟨rfl, hb5, cell_bel hb5 g0, cell_bel hb5 g1, cell_bel hb5 g2, cell_bel hb5 g3, cell_bel hb5 g4, cell_bel hb5 f0, cell_bel hb5 f1, cell_bel hb5 f2, cell_bel hb5 f3, cell_bel hb5 f4⟩
            have VX := hidI g5.vals
            have VY := hidI f5.vals
            clear g5 f5
            go_wp2_with fail
            go_region_held3 (fun w4 => w4.cell? ⟨xb, xo + k * 5, none⟩ = some (.int .i64 xs[k].kind) ∧ w4.cell? ⟨xb, xo + k * 5 + 1, none⟩ = some (.int .i64 xs[k].n) ∧ w4.cell? ⟨xb, xo + k * 5 + 2, none⟩ = some (.string ⟨xs[k].s.toArray⟩) ∧ w4.cell? ⟨xb, xo + k * 5 + 3, none⟩ = some (.slice p5 xs[k].keys.length q5) ∧ w4.cell? ⟨xb, xo + k * 5 + 4, none⟩ = some (.slice p6 xs[k].l.length q6) ∧ w4.cell? ⟨yb, yo + k * 5, none⟩ = some (.int .i64 ys[k].kind) ∧ w4.cell? ⟨yb, yo + k * 5 + 1, none⟩ = some (.int .i64 ys[k].n) ∧ w4.cell? ⟨yb, yo + k * 5 + 2, none⟩ = some (.string ⟨ys[k].s.toArray⟩) ∧ w4.cell? ⟨yb, yo + k * 5 + 3, none⟩ = some (.slice p7 ys[k].keys.length q7) ∧ w4.cell? ⟨yb, yo + k * 5 + 4, none⟩ = some (.slice p8 ys[k].l.length q8)) (go_keep)
              (first | (go_at_call 40; refine (CALL.out _ (by exact ⟨rfl, rfl, rfl, Nat.le_refl _, fun _ _ => rfl⟩)).mono ?_; rintro e w4 ⟨rfl, hb4, s0, s1, s2, s3, s4, r0, r1, r2, r3, r4⟩))
            all_goals
              have HB4 := hidI hb4
              have E4 := hidI (J.out.2.2.2.2.2.bel hb4)
              clear hb4 g0 g1 g2 g3 g4 f0 f1 f2 f3 f4 CALL s0 s1 s2 s3 r0 r1 r2 r3
              cases hr : aliked xs[k] ys[k] with
              | false =>
                have R : Hid ((¬ a = b) ∧ Below w.heap.size w w4) := hidI ⟨fun e => absurd ((drop_both hlt hlt').1 (J.out.1.1 e).2).1 (alike_no hr), E4.out.2.2.2.2.2.2.2.2.2⟩
                clear hr s4 r4
                go_wp2_with fail
                go_ret
                exact ⟨false, rfl, ⟨fun e => absurd e Bool.false_ne_true, fun e => absurd e R.out.1⟩, R.out.2⟩
              | true =>
                have HR := hidI hr
                clear hr
                by_cases h0 : xs[k].l.length = 0
                · have d0 : ¬ (0 : Int) < (xs[k].l.length : Int) := by omega
                  have FIN : Hid (SJ w ok ok' ia ib a b xs ys (.slice (some ⟨xb, xo, none⟩) xs.length xc) (.slice (some ⟨yb, yo, none⟩) ys.length yc) M (k + 1) (.slice (some ⟨gL', 0, none⟩) ls.length cL') (.slice (some ⟨gR', 0, none⟩) rs.length cR') w4) := by
                    obtain ⟨j1, j2, j3, j5, j6, j7⟩ := J.out
                    have he := alike_eq HR.out
                    have e1 : xs[k].l = [] := List.eq_nil_of_length_eq_zero h0
                    have e2 : ys[k].l = [] := List.eq_nil_of_length_eq_zero (by rw [he.2, h0])
                    have e3 : xs[k] = ys[k] := he.1.2 (by rw [e1, e2])
                    have e4 := cnts_drop hlt
                    exact hidI ⟨ls, rs, by rw [j1, drop_both hlt hlt']; simp [e3], j2, by omega, GM.out, j5.bel HB4.out, j6.bel HB4.out, gL', gR', cL', cR', rfl, rfl, E4.out⟩
                  clear h0 r4
                  go_wp2_with fail
                  go_roundg (xs.length - (k + 1))
                  case measure => rw [GI.out]; omega
                  case rel => exact ⟨k + 1, hlt, rfl, by go_num, FIN.out⟩
                · have d0 : (0 : Int) < (xs[k].l.length : Int) := by omega
                  have WL : Hid (Wait w4 w.heap.size (okX ok w.heap.size ia) ls gL' cL') := hidI E4.out.1
                  have WR : Hid (Wait w4 w.heap.size (okX ok' w.heap.size ib) rs gR' cR') := hidI E4.out.2.1
                  have VX4 : Hid (ValsIn w4 (okX ok w.heap.size ia) xs[k].l (.slice p6 xs[k].l.length q6)) := hidI (VX.out.bel HB4.out)
                  have VY4 : Hid (ValsIn w4 (okX ok' w.heap.size ib) ys[k].l (.slice p8 ys[k].l.length q8)) := hidI (VY.out.bel HB4.out)
                  have LA := hidI E4.out.lows
                  have LB := hidI E4.out.swap.lows
                  have gL4 : Hid (gL' < w4.heap.size) := hidI E4.out.1.lt.2
                  have gR4 : Hid (gR' < w4.heap.size) := hidI E4.out.2.1.lt.2
                  have nLR : Hid (gR' ≠ gL') := hidI E4.out.2.2.1.symm
                  have nRL : Hid (gL' ≠ gR') := hidI E4.out.2.2.1
                  have nLB : Hid (∀ j, (okX ok' w.heap.size ib) j → j ≠ gL') := hidI (okX_ne E4.out.1.lt.1 E4.out.2.2.2.2.2.1)
                  have nRA : Hid (∀ j, (okX ok w.heap.size ia) j → j ≠ gR') := hidI (okX_ne E4.out.2.1.lt.1 E4.out.2.2.2.2.1)
                  have nXL : Hid (xb ≠ gL') := hidI (okX_ne E4.out.1.lt.1 E4.out.2.2.2.1 _ (J.out.2.2.2.1.blk hlt))
                  have nXR : Hid (xb ≠ gR') := hidI (nRA.out _ (J.out.2.2.2.1.blk hlt))
                  have nYL : Hid (yb ≠ gL') := hidI (nLB.out _ (J.out.2.2.2.2.1.blk hlt'))
                  have nYR : Hid (yb ≠ gR') := hidI (okX_ne E4.out.2.1.lt.1 E4.out.2.2.2.2.2.2.1 _ (J.out.2.2.2.2.1.blk hlt'))
                  have nls : ls.length ≤ 5000000000000 := by have := mu_len ls; have := J.out.2.2.1; have := GM.out; omega
                  have nrs : rs.length ≤ 5000000000000 := by have := J.out.2.1.1; omega
                  have midL : Hid (∀ (W w7 : World) (g7 c7 : Nat), Below w4.heap.size w4 W → Wait w7 w.heap.size (okX ok w.heap.size ia) (ls ++ [xs[k].l]) g7 c7 → W.grownBy w7 (some gL') → (g7 = gL' ∨ W.heap.size = g7) →
                    (w7.cell? ⟨xb, xo + k * 5 + 4, none⟩ = some (.slice p6 xs[k].l.length q6) ∧ w7.cell? ⟨yb, yo + k * 5 + 4, none⟩ = some (.slice p8 ys[k].l.length q8) ∧ (∀ o, (w7.alloc o).cell? ⟨xb, xo + k * 5 + 4, none⟩ = some (.slice p6 xs[k].l.length q6)) ∧ (∀ o, (w7.alloc o).cell? ⟨yb, yo + k * 5 + 4, none⟩ = some (.slice p8 ys[k].l.length q8))) ∧
                    (∀ nb o, w4.heap.size ≤ nb → W.heap[nb]? = some o → w7.heap[nb]? = some o) ∧ Wait w7 w.heap.size (okX ok' w.heap.size ib) rs gR' cR' ∧ ValsIn w7 (okX ok' w.heap.size ib) ys[k].l (.slice p8 ys[k].l.length q8) ∧ (∀ j, (okX ok' w.heap.size ib) j → j < w7.heap.size) ∧
                    w4.grownBy w7 (some gL') ∧ Wait w7 w.heap.size (okX ok w.heap.size ia) (ls ++ [xs[k].l]) g7 c7 ∧ (g7 = gL' ∨ w4.heap.size ≤ g7)) := by
                    intro W w7 g7 c7 b1 h7 q7 o7
                    have G : w4.grownBy w7 (some gL') := gb_trans (gb_below b1) q7
                    have cx := G.cell s4 (by simpa using nXL.out)
                    have cy := G.cell r4 (by simpa using nYL.out)
                    refine ⟨⟨cx, cy, fun o => cell_bel (bel_alloc w7 o) cx, fun o => cell_bel (bel_alloc w7 o) cy⟩, fun nb o hn ho => (q7.block nb (Array.getElem?_eq_some_iff.1 ho).1 (by simp; have := gL4.out; omega)).trans ho, WR.out.far G nLR.out nLB.out, VY4.out.grown G nLB.out, fun j hj => Nat.lt_of_lt_of_le (LB.out j hj) G.size, G, h7, o7.imp id fun e => by have := b1.size; omega⟩
                  have midR : Hid (∀ (W w7 : World) (g7 c7 : Nat), Below w4.heap.size w4 W → Wait w7 w.heap.size (okX ok' w.heap.size ib) (rs ++ [ys[k].l]) g7 c7 → W.grownBy w7 (some gR') → (g7 = gR' ∨ W.heap.size = g7) →
                    (w7.cell? ⟨xb, xo + k * 5 + 4, none⟩ = some (.slice p6 xs[k].l.length q6) ∧ w7.cell? ⟨yb, yo + k * 5 + 4, none⟩ = some (.slice p8 ys[k].l.length q8) ∧ (∀ o, (w7.alloc o).cell? ⟨xb, xo + k * 5 + 4, none⟩ = some (.slice p6 xs[k].l.length q6)) ∧ (∀ o, (w7.alloc o).cell? ⟨yb, yo + k * 5 + 4, none⟩ = some (.slice p8 ys[k].l.length q8))) ∧
                    (∀ nb o, w4.heap.size ≤ nb → W.heap[nb]? = some o → w7.heap[nb]? = some o) ∧ Wait w7 w.heap.size (okX ok w.heap.size ia) ls gL' cL' ∧ ValsIn w7 (okX ok w.heap.size ia) xs[k].l (.slice p6 xs[k].l.length q6) ∧ (∀ j, (okX ok w.heap.size ia) j → j < w7.heap.size) ∧
                    w4.grownBy w7 (some gR') ∧ Wait w7 w.heap.size (okX ok' w.heap.size ib) (rs ++ [ys[k].l]) g7 c7 ∧ (g7 = gR' ∨ w4.heap.size ≤ g7)) := by
                    intro W w7 g7 c7 b1 h7 q7 o7
                    have G : w4.grownBy w7 (some gR') := gb_trans (gb_below b1) q7
                    have cx := G.cell s4 (by simpa using nXR.out)
                    have cy := G.cell r4 (by simpa using nYR.out)
                    refine ⟨⟨cx, cy, fun o => cell_bel (bel_alloc w7 o) cx, fun o => cell_bel (bel_alloc w7 o) cy⟩, fun nb o hn ho => (q7.block nb (Array.getElem?_eq_some_iff.1 ho).1 (by simp; have := gR4.out; omega)).trans ho, WL.out.far G nRL.out nRA.out, VX4.out.grown G nRA.out, fun j hj => Nat.lt_of_lt_of_le (LA.out j hj) G.size, G, h7, o7.imp id fun e => by have := b1.size; omega⟩
                  have FINL : Hid (∀ (g7 c7 g8 c8 : Nat) (w7 w8 : World), w4.grownBy w7 (some gL') → Wait w7 w.heap.size (okX ok w.heap.size ia) (ls ++ [xs[k].l]) g7 c7 → (g7 = gL' ∨ w4.heap.size ≤ g7) → w7.grownBy w8 (some gR') → Wait w8 w.heap.size (okX ok' w.heap.size ib) (rs ++ [ys[k].l]) g8 c8 → (g8 = gR' ∨ w7.heap.size ≤ g8) →
                      SJ w ok ok' ia ib a b xs ys (.slice (some ⟨xb, xo, none⟩) xs.length xc) (.slice (some ⟨yb, yo, none⟩) ys.length yc) M (k + 1) (.slice (some ⟨g7, 0, none⟩) (ls.length + 1) c7) (.slice (some ⟨g8, 0, none⟩) (rs.length + 1) c8) w8) := by
                    intro g7 c7 g8 c8 w7 w8 q7 h7 o7 q8 h8 o8
                    obtain ⟨j1, j2, j3, j5, j6, j7⟩ := J.out
                    have he := alike_eq HR.out
                    have e4 := cnts_drop hlt
                    have e5 := cnt_eq xs[k]
                    refine ⟨ls ++ [xs[k].l], rs ++ [ys[k].l], by rw [j1, drop_both hlt hlt', snoc_both, he.1, and_assoc], j2.push he.2, by rw [mu_push]; omega, GM.out, ((j5.bel HB4.out).grown q7 ?_).grown q8 nRA.out, ((j6.bel HB4.out).grown q7 nLB.out).grown q8 ?_, g7, g8, c7, c8, by simp, by simp, push_end E4.out q7 h7 o7 q8 h8 o8⟩
                    · exact okX_ne E4.out.1.lt.1 E4.out.2.2.2.1
                    · exact okX_ne E4.out.2.1.lt.1 E4.out.2.2.2.2.2.2.1
                  have FINR : Hid (∀ (g7 c7 g8 c8 : Nat) (w7 w8 : World), w4.grownBy w7 (some gR') → Wait w7 w.heap.size (okX ok' w.heap.size ib) (rs ++ [ys[k].l]) g7 c7 → (g7 = gR' ∨ w4.heap.size ≤ g7) → w7.grownBy w8 (some gL') → Wait w8 w.heap.size (okX ok w.heap.size ia) (ls ++ [xs[k].l]) g8 c8 → (g8 = gL' ∨ w7.heap.size ≤ g8) →
                      SJ w ok ok' ia ib a b xs ys (.slice (some ⟨xb, xo, none⟩) xs.length xc) (.slice (some ⟨yb, yo, none⟩) ys.length yc) M (k + 1) (.slice (some ⟨g8, 0, none⟩) (ls.length + 1) c8) (.slice (some ⟨g7, 0, none⟩) (rs.length + 1) c7) w8) := by
                    intro g7 c7 g8 c8 w7 w8 q7 h7 o7 q8 h8 o8
                    obtain ⟨j1, j2, j3, j5, j6, j7⟩ := J.out
                    have he := alike_eq HR.out
                    have e4 := cnts_drop hlt
                    have e5 := cnt_eq xs[k]
                    refine ⟨ls ++ [xs[k].l], rs ++ [ys[k].l], by rw [j1, drop_both hlt hlt', snoc_both, he.1, and_assoc], j2.push he.2, by rw [mu_push]; omega, GM.out, ((j5.bel HB4.out).grown q7 nRA.out).grown q8 ?_, ((j6.bel HB4.out).grown q7 ?_).grown q8 nLB.out, g8, g7, c8, c7, by simp, by simp, (push_end E4.out.swap q7 h7 o7 q8 h8 o8).swap⟩
                    · exact okX_ne E4.out.1.lt.1 E4.out.2.2.2.1
                    · exact okX_ne E4.out.2.1.lt.1 E4.out.2.2.2.2.2.2.1
                  have s5 : ∀ o, (w4.alloc o).cell? ⟨xb, xo + k * 5 + 4, none⟩ = some (.slice p6 xs[k].l.length q6) := fun o => cell_bel (bel_alloc w4 o) s4
                  have r5 : ∀ o, (w4.alloc o).cell? ⟨yb, yo + k * 5 + 4, none⟩ = some (.slice p8 ys[k].l.length q8) := fun o => cell_bel (bel_alloc w4 o) r4
                  have s6 : ∀ o o', ((w4.alloc o).alloc o').cell? ⟨xb, xo + k * 5 + 4, none⟩ = some (.slice p6 xs[k].l.length q6) := fun o o' => cell_bel (bel_alloc _ o') (s5 o)
                  have r6 : ∀ o o', ((w4.alloc o).alloc o').cell? ⟨yb, yo + k * 5 + 4, none⟩ = some (.slice p8 ys[k].l.length q8) := fun o o' => cell_bel (bel_alloc _ o') (r5 o)
                  clear h0
                  go_upto_region 12 with fail
                  go_region_held3 (fun w' => w'.cell? ⟨xb, xo + k * 5 + 4, none⟩ = some (.slice p6 xs[k].l.length q6) ∧ w'.cell? ⟨yb, yo + k * 5 + 4, none⟩ = some (.slice p8 ys[k].l.length q8)) (go_keep)
                    (first | (refine step_push (by rfl) _ _ (by rfl) (by rfl) (by rfl) (WL.out.bel (by first | exact Below.refl _ _ | exact bel_al (Below.refl _ _) _ | exact bel_al (bel_al (Below.refl _ _) _) _ | exact bel_dr (Below.refl _ _) | exact bel_dr (bel_al (Below.refl _ _) _) | exact bel_dr (bel_al (bel_al (Below.refl _ _) _) _) | exact bel_dr (bel_dr (Below.refl _ _)) | exact bel_dr (bel_dr (bel_al (Below.refl _ _) _)) | exact bel_dr (bel_dr (bel_al (bel_al (Below.refl _ _) _) _)) | exact bel_dr (bel_dr (bel_dr (Below.refl _ _))) | exact bel_dr (bel_dr (bel_dr (bel_al (Below.refl _ _) _))) | exact bel_dr (bel_dr (bel_dr (bel_al (bel_al (Below.refl _ _) _) _))))) (by first | exact heap_alloc_new _ _ | exact h2a _ _ _ | exact h2b _ _ _) (VX4.out.bel (by first | exact Below.refl _ _ | exact bel_al (Below.refl _ _) _ | exact bel_al (bel_al (Below.refl _ _) _) _ | exact bel_dr (Below.refl _ _) | exact bel_dr (bel_al (Below.refl _ _) _) | exact bel_dr (bel_al (bel_al (Below.refl _ _) _) _) | exact bel_dr (bel_dr (Below.refl _ _)) | exact bel_dr (bel_dr (bel_al (Below.refl _ _) _)) | exact bel_dr (bel_dr (bel_al (bel_al (Below.refl _ _) _) _)) | exact bel_dr (bel_dr (bel_dr (Below.refl _ _))) | exact bel_dr (bel_dr (bel_dr (bel_al (Below.refl _ _) _))) | exact bel_dr (bel_dr (bel_dr (bel_al (bel_al (Below.refl _ _) _) _))))) (by omega) (fun j hj => Nat.lt_of_lt_of_le (LA.out j hj) (szle (a := w4) (by first | exact Below.refl _ _ | exact bel_al (Below.refl _ _) _ | exact bel_al (bel_al (Below.refl _ _) _) _ | exact bel_dr (Below.refl _ _) | exact bel_dr (bel_al (Below.refl _ _) _) | exact bel_dr (bel_al (bel_al (Below.refl _ _) _) _) | exact bel_dr (bel_dr (Below.refl _ _)) | exact bel_dr (bel_dr (bel_al (Below.refl _ _) _)) | exact bel_dr (bel_dr (bel_al (bel_al (Below.refl _ _) _) _)) | exact bel_dr (bel_dr (bel_dr (Below.refl _ _))) | exact bel_dr (bel_dr (bel_dr (bel_al (Below.refl _ _) _))) | exact bel_dr (bel_dr (bel_dr (bel_al (bel_al (Below.refl _ _) _) _)))))) ?_; intro g7 c7 w7 h7 q7 o7; have P7 : Hid _ := hidI (midL.out _ _ _ _ (by first | exact Below.refl _ _ | exact bel_al (Below.refl _ _) _ | exact bel_al (bel_al (Below.refl _ _) _) _ | exact bel_dr (Below.refl _ _) | exact bel_dr (bel_al (Below.refl _ _) _) | exact bel_dr (bel_al (bel_al (Below.refl _ _) _) _) | exact bel_dr (bel_dr (Below.refl _ _)) | exact bel_dr (bel_dr (bel_al (Below.refl _ _) _)) | exact bel_dr (bel_dr (bel_al (bel_al (Below.refl _ _) _) _)) | exact bel_dr (bel_dr (bel_dr (Below.refl _ _))) | exact bel_dr (bel_dr (bel_dr (bel_al (Below.refl _ _) _))) | exact bel_dr (bel_dr (bel_dr (bel_al (bel_al (Below.refl _ _) _) _)))) h7 q7 o7); obtain ⟨v1, v2, v3, v4⟩ := P7.out.1; have N7 : Hid _ := hidI P7.out.2.1; clear h7 q7 o7) | (refine step_push (by rfl) _ _ (by rfl) (by rfl) (by rfl) (P7.out.2.2.1.bel (by first | exact Below.refl _ _ | exact bel_al (Below.refl _ _) _ | exact bel_al (bel_al (Below.refl _ _) _) _ | exact bel_dr (Below.refl _ _) | exact bel_dr (bel_al (Below.refl _ _) _) | exact bel_dr (bel_al (bel_al (Below.refl _ _) _) _) | exact bel_dr (bel_dr (Below.refl _ _)) | exact bel_dr (bel_dr (bel_al (Below.refl _ _) _)) | exact bel_dr (bel_dr (bel_al (bel_al (Below.refl _ _) _) _)) | exact bel_dr (bel_dr (bel_dr (Below.refl _ _))) | exact bel_dr (bel_dr (bel_dr (bel_al (Below.refl _ _) _))) | exact bel_dr (bel_dr (bel_dr (bel_al (bel_al (Below.refl _ _) _) _))))) (by first | exact heap_alloc_new _ _ | exact N7.out _ _ (by simp) (heap_alloc_new _ _) | exact N7.out _ _ (by simp) (h2a _ _ _) | exact N7.out _ _ (by simp) (h2b _ _ _)) (P7.out.2.2.2.1.bel (by first | exact Below.refl _ _ | exact bel_al (Below.refl _ _) _ | exact bel_al (bel_al (Below.refl _ _) _) _ | exact bel_dr (Below.refl _ _) | exact bel_dr (bel_al (Below.refl _ _) _) | exact bel_dr (bel_al (bel_al (Below.refl _ _) _) _) | exact bel_dr (bel_dr (Below.refl _ _)) | exact bel_dr (bel_dr (bel_al (Below.refl _ _) _)) | exact bel_dr (bel_dr (bel_al (bel_al (Below.refl _ _) _) _)) | exact bel_dr (bel_dr (bel_dr (Below.refl _ _))) | exact bel_dr (bel_dr (bel_dr (bel_al (Below.refl _ _) _))) | exact bel_dr (bel_dr (bel_dr (bel_al (bel_al (Below.refl _ _) _) _))))) (by omega) (fun j hj => Nat.lt_of_lt_of_le (P7.out.2.2.2.2.1 j hj) (szle (a := w7) (by first | exact Below.refl _ _ | exact bel_al (Below.refl _ _) _ | exact bel_al (bel_al (Below.refl _ _) _) _ | exact bel_dr (Below.refl _ _) | exact bel_dr (bel_al (Below.refl _ _) _) | exact bel_dr (bel_al (bel_al (Below.refl _ _) _) _) | exact bel_dr (bel_dr (Below.refl _ _)) | exact bel_dr (bel_dr (bel_al (Below.refl _ _) _)) | exact bel_dr (bel_dr (bel_al (bel_al (Below.refl _ _) _) _)) | exact bel_dr (bel_dr (bel_dr (Below.refl _ _))) | exact bel_dr (bel_dr (bel_dr (bel_al (Below.refl _ _) _))) | exact bel_dr (bel_dr (bel_dr (bel_al (bel_al (Below.refl _ _) _) _)))))) ?_; intro g8 c8 w8 h8 q8 o8; have P8 := hidI (two_up (a := w7) (by first | exact Below.refl _ _ | exact bel_al (Below.refl _ _) _ | exact bel_al (bel_al (Below.refl _ _) _) _ | exact bel_dr (Below.refl _ _) | exact bel_dr (bel_al (Below.refl _ _) _) | exact bel_dr (bel_al (bel_al (Below.refl _ _) _) _) | exact bel_dr (bel_dr (Below.refl _ _)) | exact bel_dr (bel_dr (bel_al (Below.refl _ _) _)) | exact bel_dr (bel_dr (bel_al (bel_al (Below.refl _ _) _) _)) | exact bel_dr (bel_dr (bel_dr (Below.refl _ _))) | exact bel_dr (bel_dr (bel_dr (bel_al (Below.refl _ _) _))) | exact bel_dr (bel_dr (bel_dr (bel_al (bel_al (Below.refl _ _) _) _)))) q8 o8); have P9 := hidI h8; have v5 := P8.out.1.cell v1 (by simpa using nXL.out); have v6 := P8.out.1.cell v2 (by simpa using nYL.out); clear h8 q8 o8) | (refine step_push (by rfl) _ _ (by rfl) (by rfl) (by rfl) (WR.out.bel (by first | exact Below.refl _ _ | exact bel_al (Below.refl _ _) _ | exact bel_al (bel_al (Below.refl _ _) _) _ | exact bel_dr (Below.refl _ _) | exact bel_dr (bel_al (Below.refl _ _) _) | exact bel_dr (bel_al (bel_al (Below.refl _ _) _) _) | exact bel_dr (bel_dr (Below.refl _ _)) | exact bel_dr (bel_dr (bel_al (Below.refl _ _) _)) | exact bel_dr (bel_dr (bel_al (bel_al (Below.refl _ _) _) _)) | exact bel_dr (bel_dr (bel_dr (Below.refl _ _))) | exact bel_dr (bel_dr (bel_dr (bel_al (Below.refl _ _) _))) | exact bel_dr (bel_dr (bel_dr (bel_al (bel_al (Below.refl _ _) _) _))))) (by first | exact heap_alloc_new _ _ | exact h2a _ _ _ | exact h2b _ _ _) (VY4.out.bel (by first | exact Below.refl _ _ | exact bel_al (Below.refl _ _) _ | exact bel_al (bel_al (Below.refl _ _) _) _ | exact bel_dr (Below.refl _ _) | exact bel_dr (bel_al (Below.refl _ _) _) | exact bel_dr (bel_al (bel_al (Below.refl _ _) _) _) | exact bel_dr (bel_dr (Below.refl _ _)) | exact bel_dr (bel_dr (bel_al (Below.refl _ _) _)) | exact bel_dr (bel_dr (bel_al (bel_al (Below.refl _ _) _) _)) | exact bel_dr (bel_dr (bel_dr (Below.refl _ _))) | exact bel_dr (bel_dr (bel_dr (bel_al (Below.refl _ _) _))) | exact bel_dr (bel_dr (bel_dr (bel_al (bel_al (Below.refl _ _) _) _))))) (by omega) (fun j hj => Nat.lt_of_lt_of_le (LB.out j hj) (szle (a := w4) (by first | exact Below.refl _ _ | exact bel_al (Below.refl _ _) _ | exact bel_al (bel_al (Below.refl _ _) _) _ | exact bel_dr (Below.refl _ _) | exact bel_dr (bel_al (Below.refl _ _) _) | exact bel_dr (bel_al (bel_al (Below.refl _ _) _) _) | exact bel_dr (bel_dr (Below.refl _ _)) | exact bel_dr (bel_dr (bel_al (Below.refl _ _) _)) | exact bel_dr (bel_dr (bel_al (bel_al (Below.refl _ _) _) _)) | exact bel_dr (bel_dr (bel_dr (Below.refl _ _))) | exact bel_dr (bel_dr (bel_dr (bel_al (Below.refl _ _) _))) | exact bel_dr (bel_dr (bel_dr (bel_al (bel_al (Below.refl _ _) _) _)))))) ?_; intro g7 c7 w7 h7 q7 o7; have P7 : Hid _ := hidI (midR.out _ _ _ _ (by first | exact Below.refl _ _ | exact bel_al (Below.refl _ _) _ | exact bel_al (bel_al (Below.refl _ _) _) _ | exact bel_dr (Below.refl _ _) | exact bel_dr (bel_al (Below.refl _ _) _) | exact bel_dr (bel_al (bel_al (Below.refl _ _) _) _) | exact bel_dr (bel_dr (Below.refl _ _)) | exact bel_dr (bel_dr (bel_al (Below.refl _ _) _)) | exact bel_dr (bel_dr (bel_al (bel_al (Below.refl _ _) _) _)) | exact bel_dr (bel_dr (bel_dr (Below.refl _ _))) | exact bel_dr (bel_dr (bel_dr (bel_al (Below.refl _ _) _))) | exact bel_dr (bel_dr (bel_dr (bel_al (bel_al (Below.refl _ _) _) _)))) h7 q7 o7); obtain ⟨v1, v2, v3, v4⟩ := P7.out.1; have N7 : Hid _ := hidI P7.out.2.1; clear h7 q7 o7) | (refine step_push (by rfl) _ _ (by rfl) (by rfl) (by rfl) (P7.out.2.2.1.bel (by first | exact Below.refl _ _ | exact bel_al (Below.refl _ _) _ | exact bel_al (bel_al (Below.refl _ _) _) _ | exact bel_dr (Below.refl _ _) | exact bel_dr (bel_al (Below.refl _ _) _) | exact bel_dr (bel_al (bel_al (Below.refl _ _) _) _) | exact bel_dr (bel_dr (Below.refl _ _)) | exact bel_dr (bel_dr (bel_al (Below.refl _ _) _)) | exact bel_dr (bel_dr (bel_al (bel_al (Below.refl _ _) _) _)) | exact bel_dr (bel_dr (bel_dr (Below.refl _ _))) | exact bel_dr (bel_dr (bel_dr (bel_al (Below.refl _ _) _))) | exact bel_dr (bel_dr (bel_dr (bel_al (bel_al (Below.refl _ _) _) _))))) (by first | exact heap_alloc_new _ _ | exact N7.out _ _ (by simp) (heap_alloc_new _ _) | exact N7.out _ _ (by simp) (h2a _ _ _) | exact N7.out _ _ (by simp) (h2b _ _ _)) (P7.out.2.2.2.1.bel (by first | exact Below.refl _ _ | exact bel_al (Below.refl _ _) _ | exact bel_al (bel_al (Below.refl _ _) _) _ | exact bel_dr (Below.refl _ _) | exact bel_dr (bel_al (Below.refl _ _) _) | exact bel_dr (bel_al (bel_al (Below.refl _ _) _) _) | exact bel_dr (bel_dr (Below.refl _ _)) | exact bel_dr (bel_dr (bel_al (Below.refl _ _) _)) | exact bel_dr (bel_dr (bel_al (bel_al (Below.refl _ _) _) _)) | exact bel_dr (bel_dr (bel_dr (Below.refl _ _))) | exact bel_dr (bel_dr (bel_dr (bel_al (Below.refl _ _) _))) | exact bel_dr (bel_dr (bel_dr (bel_al (bel_al (Below.refl _ _) _) _))))) (by omega) (fun j hj => Nat.lt_of_lt_of_le (P7.out.2.2.2.2.1 j hj) (szle (a := w7) (by first | exact Below.refl _ _ | exact bel_al (Below.refl _ _) _ | exact bel_al (bel_al (Below.refl _ _) _) _ | exact bel_dr (Below.refl _ _) | exact bel_dr (bel_al (Below.refl _ _) _) | exact bel_dr (bel_al (bel_al (Below.refl _ _) _) _) | exact bel_dr (bel_dr (Below.refl _ _)) | exact bel_dr (bel_dr (bel_al (Below.refl _ _) _)) | exact bel_dr (bel_dr (bel_al (bel_al (Below.refl _ _) _) _)) | exact bel_dr (bel_dr (bel_dr (Below.refl _ _))) | exact bel_dr (bel_dr (bel_dr (bel_al (Below.refl _ _) _))) | exact bel_dr (bel_dr (bel_dr (bel_al (bel_al (Below.refl _ _) _) _)))))) ?_; intro g8 c8 w8 h8 q8 o8; have P8 := hidI (two_up (a := w7) (by first | exact Below.refl _ _ | exact bel_al (Below.refl _ _) _ | exact bel_al (bel_al (Below.refl _ _) _) _ | exact bel_dr (Below.refl _ _) | exact bel_dr (bel_al (Below.refl _ _) _) | exact bel_dr (bel_al (bel_al (Below.refl _ _) _) _) | exact bel_dr (bel_dr (Below.refl _ _)) | exact bel_dr (bel_dr (bel_al (Below.refl _ _) _)) | exact bel_dr (bel_dr (bel_al (bel_al (Below.refl _ _) _) _)) | exact bel_dr (bel_dr (bel_dr (Below.refl _ _))) | exact bel_dr (bel_dr (bel_dr (bel_al (Below.refl _ _) _))) | exact bel_dr (bel_dr (bel_dr (bel_al (bel_al (Below.refl _ _) _) _)))) q8 o8); have P9 := hidI h8; have v5 := P8.out.1.cell v1 (by simpa using nXR.out); have v6 := P8.out.1.cell v2 (by simpa using nYR.out); clear h8 q8 o8))
                  all_goals
                    go_wp2_with fail
                    go_roundg (xs.length - (k + 1))
                    case measure => rw [GI.out]; omega
                    case rel => first
                      | exact ⟨k + 1, hlt, rfl, by go_num, FINL.out _ _ _ _ _ _ P7.out.2.2.2.2.2.1 P7.out.2.2.2.2.2.2.1 P7.out.2.2.2.2.2.2.2 P8.out.1 P9.out P8.out.2⟩
                      | exact ⟨k + 1, hlt, rfl, by go_num, FINR.out _ _ _ _ _ _ P7.out.2.2.2.2.2.1 P7.out.2.2.2.2.2.2.1 P7.out.2.2.2.2.2.2.2 P8.out.1 P9.out P8.out.2⟩
          · have FIN : Hid ((∃ ls2 rs2, (a = b ↔ ls2 = rs2) ∧ PL ls2 rs2 ∧ mu ls = mu ls2 ∧ mu ls2 ≤ 2000000000001 ∧ SI w ok ok' ia ib ls2 rs2 (.slice (some ⟨gL', 0, none⟩) ls.length cL') (.slice (some ⟨gR', 0, none⟩) rs.length cR') wr) ∧ mu ls < M) := by
              obtain ⟨j1, j2, j3, j5, j6, j7⟩ := J.out
              have l1 : xs.drop k = [] := List.drop_eq_nil_of_le (by omega)
              have l2 : ys.drop k = [] := List.drop_eq_nil_of_le (by have := HXY.out; omega)
              have := GM.out
              exact hidI ⟨⟨ls, rs, by rw [j1, l1, l2]; simp, j2, rfl, by omega, gL', gR', cL', cR', rfl, rfl, j7⟩, by omega⟩
            have d1 : ¬ (k : Int) < (xs.length : Int) := by omega
            clear i5 i6 J
            go_wp2_with fail
            go_roundg (mu ls)
            case measure => rw [GKM.out]; exact FIN.out.2
            case rel => exact FIN.out.1
end Go.Proofs.YtfbddgpekbhpfacGreatDoor
