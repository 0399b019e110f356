/- What NextStatus of package stairwellref does: a weight, and what comes anew. -/
import Derived.Test.YtiaaphflbkcojaaHo
import Derived.Deep.Cut
set_option linter.unusedSimpArgs false
set_option linter.unusedVariables false
namespace Go.Proofs.Ytiaaphflbkcojaa
open Go.RowKit

set_option maxRecDepth 100000 in
set_option maxHeartbeats 4000000 in
theorem rnext_weight (w : World) (g : List UInt8) (l : List Stp) (v : Value) (s : Sta) (now order : Int) (h : StpsAre w l v) (hg : g.length ≤ 9223372036854775807) (hs : specOk g l = true) (ht : staOk s = true) (hT : 0 ≤ now) (hT2 : now ≤ 1099511627776) (ho : 0 ≤ order) (ho2 : order ≤ 3) (q1 : (g == s.a) = false) (q1n : (g != s.a) = true) (q2 : (g == s.c) = true) (q2n : (g != s.c) = false) (q3 : (s.ph == 1) = false) (q3n : (s.ph != 1) = true) (q4 : (s.ph == 4) = false) (q4n : (s.ph != 4) = true) (q5 : (order == 2) = false) (q5n : (order != 2) = true) (q6 : (order == 3) = false) (q6n : (order != 3) = true) (x : Stp) (hst : 0 ≤ s.st) (q7 : s.st < (l.length : Int)) (hx : l[s.st.toNat]? = some x) (q8 : ¬ x.w < 0) (r : Sta) (REC : ∀ W : World, Below w.heap.size w W → Calls Try.prog 9 #[.agg #[.string ⟨g.toArray⟩, v], .agg #[.string ⟨(onS (toS s x.w)).a.toArray⟩, .string ⟨(onS (toS s x.w)).c.toArray⟩, .int .i64 (onS (toS s x.w)).ph, .int .i64 (onS (toS s x.w)).st, .int .i64 (onS (toS s x.w)).we, .int .i64 (onS (toS s x.w)).si], .int .i64 now, .int .i64 order] W fun e w' => e = .returned (.tuple #[.agg #[.string ⟨r.a.toArray⟩, .string ⟨r.c.toArray⟩, .int .i64 r.ph, .int .i64 r.st, .int .i64 r.we, .int .i64 r.si], .int .i64 0]) ∧ Below W.heap.size W w') :
    Calls Try.prog 9 #[.agg #[.string ⟨g.toArray⟩, v], staV s, .int .i64 now, .int .i64 order] w fun e w' => e = .returned (.tuple #[staV (r), .int .i64 0]) ∧ Below w.heap.size w w' := by
  have E0 : Hid (staV s = .agg #[.string ⟨s.a.toArray⟩, .string ⟨s.c.toArray⟩, .int .i64 s.ph, .int .i64 s.st, .int .i64 s.we, .int .i64 s.si]) := hidI rfl
  have E1 := E0.out
  rw [E1]
  clear E0 E1
  obtain ⟨a, c, rfl⟩ := h.form
  have H := hidI h
  have G := hidI hg
  have ll := h.1
  have N0 := hidI (next_start w g (.slice a l.length c) s)
  have hk : s.st.toNat < l.length := by omega
  obtain ⟨b, off, rfl, j1, j2, k1, k2⟩ := stps_at h hk
  obtain ⟨hk', hx'⟩ := List.getElem?_eq_some_iff.1 hx
  rw [hx'] at k1 k2
  have K1 := hidI k1
  have K2 := hidI k2
  clear h hg k1 k2 hk hk' hx hx'
  have RC := hidI REC
  clear REC
  simp only [onS, toS] at RC
  have e9 : s.st + 1 ≤ 9223372036854775807 := by omega
  go_enter Try.func9, Try.ntmps9
  go_upto_region 30 with (first | (go_at_call 19; refine (rspec_at _ g l _ (H.out.bel N0.out.2.2.2) G.out).mono ?_; rintro e w1 ⟨rfl, hb⟩; rw [hs]; have N1 := hidI (N0.out.bel hb); obtain ⟨p0, p1, c0, c1, c2, c3, c4, c5, f0, f1, f2, f3, f4, f5, g0, g1, g2, g3, g4, g5, h0, h1, h2, h3, h4, h5⟩ := N1.out.c; clear hb) | (go_at_call 20; refine (rstatus_at _ s).mono ?_; rintro e w2 ⟨rfl, hb⟩; rw [ht]; have N2 := hidI (N1.out.bel hb); clear p0 p1 c0 c1 c2 c3 c4 c5 f0 f1 f2 f3 f4 f5 g0 g1 g2 g3 g4 g5 h0 h1 h2 h3 h4 h5; obtain ⟨p0, p1, c0, c1, c2, c3, c4, c5, f0, f1, f2, f3, f4, f5, g0, g1, g2, g3, g4, g5, h0, h1, h2, h3, h4, h5⟩ := N2.out.c; clear hb; have m1 := cell_bel N2.out.2.2.2 K1.out; have m2 := cell_bel N2.out.2.2.2 K2.out; have N3 := hidI (N2.out.bel (bel_alloc w2 (.cells #[.int .i64 x.w, .int .i64 x.p] 34))); obtain ⟨p0', p1', c0', c1', c2', c3', c4', c5', f0', f1', f2', f3', f4', f5', g0', g1', g2', g3', g4', g5', h0', h1', h2', h3', h4', h5'⟩ := N3.out.c))
  obtain ⟨W4, hW4, NW4⟩ : ∃ W : World, W = (((((w2.alloc (.cells #[.int .i64 x.w, .int .i64 x.p] 34)).setCell ⟨w.heap.size + 1, 4, none⟩ (.int .i64 x.w)).setCell ⟨w.heap.size + 1, 2, none⟩ (.int .i64 2)).setCell ⟨w.heap.size + 1, 5, none⟩ (.int .i64 0)).setCell ⟨w.heap.size + 1, 3, none⟩ (.int .i64 (s.st + 1))) ∧ NextI w W g (.slice (some ⟨b, off, none⟩) l.length c) (onS (toS s x.w)) := ⟨_, rfl, (N3.out.to x.w).on⟩
  rw [← hW4]
  clear hW4
  have NW4 := hidI NW4
  clear p0 p1 c0 c1 c2 c3 c4 c5 f0 f1 f2 f3 f4 f5 g0 g1 g2 g3 g4 g5 h0 h1 h2 h3 h4 h5 p0' p1' c0' c1' c2' c3' c4' c5' f0' f1' f2' f3' f4' f5' g0' g1' g2' g3' g4' g5' h0' h1' h2' h3' h4' h5'
  obtain ⟨p0, p1, c0, c1, c2, c3, c4, c5, f0, f1, f2, f3, f4, f5, g0, g1, g2, g3, g4, g5, h0, h1, h2, h3, h4, h5⟩ := NW4.out.c
  simp only [onS, toS] at c0 c1 c2 c3 c4 c5
  go_wp2_with (go_at_call 9; refine (RC.out _ (by exact NW4.out.2.2.2)).mono ?_; rintro e w5 ⟨rfl, hb⟩; have N5 := hidI (NW4.out.bel hb); clear p0 p1 c0 c1 c2 c3 c4 c5 f0 f1 f2 f3 f4 f5 g0 g1 g2 g3 g4 g5 h0 h1 h2 h3 h4 h5; obtain ⟨p0, p1, c0, c1, c2, c3, c4, c5, f0, f1, f2, f3, f4, f5, g0, g1, g2, g3, g4, g5, h0, h1, h2, h3, h4, h5⟩ := N5.out.c; clear hb)
  obtain ⟨z0, z1, z2, z3, z4, z5, -⟩ := (N5.out.2.2.1.set (r)).c
  refine bodyPost_ret (v := .tuple #[staV (r), .int .i64 0]) ?_ rfl ⟨rfl, bel_set6 N5.out.2.2.2 (by omega) (r)⟩
  simp only [set6] at z0 z1 z2 z3 z4 z5
  simp [results, Try.results9, go_sem, z0, z1, z2, z3, z4, z5, staV]
set_option maxRecDepth 100000 in
set_option maxHeartbeats 4000000 in
theorem rbegun_prom (w : World) (g : List UInt8) (l : List Stp) (v : Value) (s : Sta) (now order : Int) (h : StpsAre w l v) (hg : g.length ≤ 9223372036854775807) (hs : specOk g l = true) (ht : staOk s = true) (hT : 0 ≤ now) (hT2 : now ≤ 1099511627776) (ho : 0 ≤ order) (ho2 : order ≤ 3) (q1 : (g == s.a) = false) (q1n : (g != s.a) = true) (q2 : (g == s.c) = false) (q2n : (g != s.c) = true) (q5 : (order == 2) = true) (q5n : (order != 2) = false) :
    Calls Try.prog 9 #[.agg #[.string ⟨g.toArray⟩, v], staV s, .int .i64 now, .int .i64 order] w fun e w' => e = .returned (.tuple #[staV (healthyS g), .int .i64 0]) ∧ Below w.heap.size w w' := by
  have E0 : Hid (staV s = .agg #[.string ⟨s.a.toArray⟩, .string ⟨s.c.toArray⟩, .int .i64 s.ph, .int .i64 s.st, .int .i64 s.we, .int .i64 s.si]) := hidI rfl
  have E1 := E0.out
  rw [E1]
  clear E0 E1
  obtain ⟨a, c, rfl⟩ := h.form
  have H := hidI h
  have G := hidI hg
  have ll := h.1
  have N0 := hidI (next_start w g (.slice a l.length c) s)
  clear h hg
  go_enter Try.func9, Try.ntmps9
  go_upto_region 11 with (first | (go_at_call 19; refine (rspec_at _ g l _ (H.out.bel N0.out.2.2.2) G.out).mono ?_; rintro e w1 ⟨rfl, hb⟩; rw [hs]; have N1 := hidI (N0.out.bel hb); obtain ⟨p0, p1, c0, c1, c2, c3, c4, c5, f0, f1, f2, f3, f4, f5, g0, g1, g2, g3, g4, g5, h0, h1, h2, h3, h4, h5⟩ := N1.out.c; clear hb) | (go_at_call 20; refine (rstatus_at _ s).mono ?_; rintro e w2 ⟨rfl, hb⟩; rw [ht]; have N2 := hidI (N1.out.bel hb); clear p0 p1 c0 c1 c2 c3 c4 c5 f0 f1 f2 f3 f4 f5 g0 g1 g2 g3 g4 g5 h0 h1 h2 h3 h4 h5; obtain ⟨p0, p1, c0, c1, c2, c3, c4, c5, f0, f1, f2, f3, f4, f5, g0, g1, g2, g3, g4, g5, h0, h1, h2, h3, h4, h5⟩ := N2.out.c; clear hb))
  obtain ⟨WB, hWB, NWB⟩ : ∃ W : World, W = ((((((w2.setCell ⟨w.heap.size + 1, 0, none⟩ (.string ⟨s.a.toArray⟩)).setCell ⟨w.heap.size + 1, 1, none⟩ (.string ⟨g.toArray⟩)).setCell ⟨w.heap.size + 1, 2, none⟩ (.int .i64 2)).setCell ⟨w.heap.size + 1, 3, none⟩ (.int .i64 0)).setCell ⟨w.heap.size + 1, 4, none⟩ (.int .i64 0)).setCell ⟨w.heap.size + 1, 5, none⟩ (.int .i64 0)) ∧ NextI w W g (.slice a l.length c) (begunS s.a g) := ⟨_, rfl, N2.out.begun (begunS s.a g)⟩
  rw [← hWB]
  clear hWB
  have NWB := hidI NWB
  clear p0 p1 c0 c1 c2 c3 c4 c5 f0 f1 f2 f3 f4 f5 g0 g1 g2 g3 g4 g5 h0 h1 h2 h3 h4 h5
  obtain ⟨p0, p1, c0, c1, c2, c3, c4, c5, f0, f1, f2, f3, f4, f5, g0, g1, g2, g3, g4, g5, h0, h1, h2, h3, h4, h5⟩ := NWB.out.c
  simp only [begunS] at c0 c1 c2 c3 c4 c5
  go_wp2_with (go_at_call 21; refine (rhealthy_b _ (g)).mono ?_; rintro e w5 ⟨rfl, hb⟩; have N5 := hidI (NWB.out.bel hb); clear p0 p1 c0 c1 c2 c3 c4 c5 f0 f1 f2 f3 f4 f5 g0 g1 g2 g3 g4 g5 h0 h1 h2 h3 h4 h5; obtain ⟨p0, p1, c0, c1, c2, c3, c4, c5, f0, f1, f2, f3, f4, f5, g0, g1, g2, g3, g4, g5, h0, h1, h2, h3, h4, h5⟩ := N5.out.c; clear hb)
  obtain ⟨z0, z1, z2, z3, z4, z5, -⟩ := (N5.out.2.2.1.set (healthyS g)).c
  refine bodyPost_ret (v := .tuple #[staV (healthyS g), .int .i64 0]) ?_ rfl ⟨rfl, bel_set6 N5.out.2.2.2 (by omega) (healthyS g)⟩
  simp only [set6, healthyS] at z0 z1 z2 z3 z4 z5
  simp [results, Try.results9, go_sem, z0, z1, z2, z3, z4, z5, staV, healthyS]
set_option maxRecDepth 100000 in
set_option maxHeartbeats 4000000 in
theorem rbegun_abort (w : World) (g : List UInt8) (l : List Stp) (v : Value) (s : Sta) (now order : Int) (h : StpsAre w l v) (hg : g.length ≤ 9223372036854775807) (hs : specOk g l = true) (ht : staOk s = true) (hT : 0 ≤ now) (hT2 : now ≤ 1099511627776) (ho : 0 ≤ order) (ho2 : order ≤ 3) (q1 : (g == s.a) = false) (q1n : (g != s.a) = true) (q2 : (g == s.c) = false) (q2n : (g != s.c) = true) (q5 : (order == 2) = false) (q5n : (order != 2) = true) (q6 : (order == 3) = true) (q6n : (order != 3) = false) :
    Calls Try.prog 9 #[.agg #[.string ⟨g.toArray⟩, v], staV s, .int .i64 now, .int .i64 order] w fun e w' => e = .returned (.tuple #[staV (abortedS s.a g), .int .i64 0]) ∧ Below w.heap.size w w' := by
  have E0 : Hid (staV s = .agg #[.string ⟨s.a.toArray⟩, .string ⟨s.c.toArray⟩, .int .i64 s.ph, .int .i64 s.st, .int .i64 s.we, .int .i64 s.si]) := hidI rfl
  have E1 := E0.out
  rw [E1]
  clear E0 E1
  obtain ⟨a, c, rfl⟩ := h.form
  have H := hidI h
  have G := hidI hg
  have ll := h.1
  have N0 := hidI (next_start w g (.slice a l.length c) s)
  clear h hg
  go_enter Try.func9, Try.ntmps9
  go_upto_region 11 with (first | (go_at_call 19; refine (rspec_at _ g l _ (H.out.bel N0.out.2.2.2) G.out).mono ?_; rintro e w1 ⟨rfl, hb⟩; rw [hs]; have N1 := hidI (N0.out.bel hb); obtain ⟨p0, p1, c0, c1, c2, c3, c4, c5, f0, f1, f2, f3, f4, f5, g0, g1, g2, g3, g4, g5, h0, h1, h2, h3, h4, h5⟩ := N1.out.c; clear hb) | (go_at_call 20; refine (rstatus_at _ s).mono ?_; rintro e w2 ⟨rfl, hb⟩; rw [ht]; have N2 := hidI (N1.out.bel hb); clear p0 p1 c0 c1 c2 c3 c4 c5 f0 f1 f2 f3 f4 f5 g0 g1 g2 g3 g4 g5 h0 h1 h2 h3 h4 h5; obtain ⟨p0, p1, c0, c1, c2, c3, c4, c5, f0, f1, f2, f3, f4, f5, g0, g1, g2, g3, g4, g5, h0, h1, h2, h3, h4, h5⟩ := N2.out.c; clear hb))
  obtain ⟨WB, hWB, NWB⟩ : ∃ W : World, W = ((((((w2.setCell ⟨w.heap.size + 1, 0, none⟩ (.string ⟨s.a.toArray⟩)).setCell ⟨w.heap.size + 1, 1, none⟩ (.string ⟨g.toArray⟩)).setCell ⟨w.heap.size + 1, 2, none⟩ (.int .i64 2)).setCell ⟨w.heap.size + 1, 3, none⟩ (.int .i64 0)).setCell ⟨w.heap.size + 1, 4, none⟩ (.int .i64 0)).setCell ⟨w.heap.size + 1, 5, none⟩ (.int .i64 0)) ∧ NextI w W g (.slice a l.length c) (begunS s.a g) := ⟨_, rfl, N2.out.begun (begunS s.a g)⟩
  rw [← hWB]
  clear hWB
  have NWB := hidI NWB
  clear p0 p1 c0 c1 c2 c3 c4 c5 f0 f1 f2 f3 f4 f5 g0 g1 g2 g3 g4 g5 h0 h1 h2 h3 h4 h5
  obtain ⟨p0, p1, c0, c1, c2, c3, c4, c5, f0, f1, f2, f3, f4, f5, g0, g1, g2, g3, g4, g5, h0, h1, h2, h3, h4, h5⟩ := NWB.out.c
  simp only [begunS] at c0 c1 c2 c3 c4 c5
  go_wp2_with fail
  obtain ⟨z0, z1, z2, z3, z4, z5, -⟩ := (NWB.out.2.2.1.set (abortedS s.a g)).c
  refine bodyPost_ret (v := .tuple #[staV (abortedS s.a g), .int .i64 0]) ?_ rfl ⟨rfl, bel_set6 NWB.out.2.2.2 (by omega) (abortedS s.a g)⟩
  simp only [set6, abortedS] at z0 z1 z2 z3 z4 z5
  simp [results, Try.results9, go_sem, z0, z1, z2, z3, z4, z5, staV, abortedS]
set_option maxRecDepth 100000 in
set_option maxHeartbeats 4000000 in
theorem rbegun_last (w : World) (g : List UInt8) (l : List Stp) (v : Value) (s : Sta) (now order : Int) (h : StpsAre w l v) (hg : g.length ≤ 9223372036854775807) (hs : specOk g l = true) (ht : staOk s = true) (hT : 0 ≤ now) (hT2 : now ≤ 1099511627776) (ho : 0 ≤ order) (ho2 : order ≤ 3) (q1 : (g == s.a) = false) (q1n : (g != s.a) = true) (q2 : (g == s.c) = false) (q2n : (g != s.c) = true) (q5 : (order == 2) = false) (q5n : (order != 2) = true) (q6 : (order == 3) = false) (q6n : (order != 3) = true) (q7 : l = []) :
    Calls Try.prog 9 #[.agg #[.string ⟨g.toArray⟩, v], staV s, .int .i64 now, .int .i64 order] w fun e w' => e = .returned (.tuple #[staV (healthyS g), .int .i64 0]) ∧ Below w.heap.size w w' := by
  have E0 : Hid (staV s = .agg #[.string ⟨s.a.toArray⟩, .string ⟨s.c.toArray⟩, .int .i64 s.ph, .int .i64 s.st, .int .i64 s.we, .int .i64 s.si]) := hidI rfl
  have E1 := E0.out
  rw [E1]
  clear E0 E1
  obtain ⟨a, c, rfl⟩ := h.form
  have H := hidI h
  have G := hidI hg
  have ll := h.1
  have N0 := hidI (next_start w g (.slice a l.length c) s)
  clear h hg
  have Q7 := hidI q7
  clear q7
  go_enter Try.func9, Try.ntmps9
  go_upto_region 11 with (first | (go_at_call 19; refine (rspec_at _ g l _ (H.out.bel N0.out.2.2.2) G.out).mono ?_; rintro e w1 ⟨rfl, hb⟩; rw [hs]; have N1 := hidI (N0.out.bel hb); obtain ⟨p0, p1, c0, c1, c2, c3, c4, c5, f0, f1, f2, f3, f4, f5, g0, g1, g2, g3, g4, g5, h0, h1, h2, h3, h4, h5⟩ := N1.out.c; clear hb) | (go_at_call 20; refine (rstatus_at _ s).mono ?_; rintro e w2 ⟨rfl, hb⟩; rw [ht]; have N2 := hidI (N1.out.bel hb); clear p0 p1 c0 c1 c2 c3 c4 c5 f0 f1 f2 f3 f4 f5 g0 g1 g2 g3 g4 g5 h0 h1 h2 h3 h4 h5; obtain ⟨p0, p1, c0, c1, c2, c3, c4, c5, f0, f1, f2, f3, f4, f5, g0, g1, g2, g3, g4, g5, h0, h1, h2, h3, h4, h5⟩ := N2.out.c; clear hb))
  obtain ⟨WB, hWB, NWB⟩ : ∃ W : World, W = ((((((w2.setCell ⟨w.heap.size + 1, 0, none⟩ (.string ⟨s.a.toArray⟩)).setCell ⟨w.heap.size + 1, 1, none⟩ (.string ⟨g.toArray⟩)).setCell ⟨w.heap.size + 1, 2, none⟩ (.int .i64 2)).setCell ⟨w.heap.size + 1, 3, none⟩ (.int .i64 0)).setCell ⟨w.heap.size + 1, 4, none⟩ (.int .i64 0)).setCell ⟨w.heap.size + 1, 5, none⟩ (.int .i64 0)) ∧ NextI w W g (.slice a l.length c) (begunS s.a g) := ⟨_, rfl, N2.out.begun (begunS s.a g)⟩
  rw [← hWB]
  clear hWB
  have NWB := hidI NWB
  clear p0 p1 c0 c1 c2 c3 c4 c5 f0 f1 f2 f3 f4 f5 g0 g1 g2 g3 g4 g5 h0 h1 h2 h3 h4 h5
  obtain ⟨p0, p1, c0, c1, c2, c3, c4, c5, f0, f1, f2, f3, f4, f5, g0, g1, g2, g3, g4, g5, h0, h1, h2, h3, h4, h5⟩ := NWB.out.c
  simp only [begunS] at c0 c1 c2 c3 c4 c5
  have q7 := Q7.out
  go_wp2_with (go_at_call 21; refine (rhealthy_b _ (g)).mono ?_; rintro e w5 ⟨rfl, hb⟩; have N5 := hidI (NWB.out.bel hb); clear p0 p1 c0 c1 c2 c3 c4 c5 f0 f1 f2 f3 f4 f5 g0 g1 g2 g3 g4 g5 h0 h1 h2 h3 h4 h5; obtain ⟨p0, p1, c0, c1, c2, c3, c4, c5, f0, f1, f2, f3, f4, f5, g0, g1, g2, g3, g4, g5, h0, h1, h2, h3, h4, h5⟩ := N5.out.c; clear hb)
  obtain ⟨z0, z1, z2, z3, z4, z5, -⟩ := (N5.out.2.2.1.set (healthyS g)).c
  refine bodyPost_ret (v := .tuple #[staV (healthyS g), .int .i64 0]) ?_ rfl ⟨rfl, bel_set6 N5.out.2.2.2 (by omega) (healthyS g)⟩
  simp only [set6, healthyS] at z0 z1 z2 z3 z4 z5
  simp [results, Try.results9, go_sem, z0, z1, z2, z3, z4, z5, staV, healthyS]
set_option maxRecDepth 100000 in
set_option maxHeartbeats 4000000 in
theorem rbegun_wait (w : World) (g : List UInt8) (l : List Stp) (v : Value) (s : Sta) (now order : Int) (h : StpsAre w l v) (hg : g.length ≤ 9223372036854775807) (hs : specOk g l = true) (ht : staOk s = true) (hT : 0 ≤ now) (hT2 : now ≤ 1099511627776) (ho : 0 ≤ order) (ho2 : order ≤ 3) (q1 : (g == s.a) = false) (q1n : (g != s.a) = true) (q2 : (g == s.c) = false) (q2n : (g != s.c) = true) (q5 : (order == 2) = false) (q5n : (order != 2) = true) (q6 : (order == 3) = false) (q6n : (order != 3) = true) (x : Stp) (q7 : 0 < l.length) (hx : l[0]? = some x) (q8 : x.w < 0) :
    Calls Try.prog 9 #[.agg #[.string ⟨g.toArray⟩, v], staV s, .int .i64 now, .int .i64 order] w fun e w' => e = .returned (.tuple #[staV (waitS (begunS s.a g) now), .int .i64 0]) ∧ Below w.heap.size w w' := by
  have E0 : Hid (staV s = .agg #[.string ⟨s.a.toArray⟩, .string ⟨s.c.toArray⟩, .int .i64 s.ph, .int .i64 s.st, .int .i64 s.we, .int .i64 s.si]) := hidI rfl
  have E1 := E0.out
  rw [E1]
  clear E0 E1
  obtain ⟨a, c, rfl⟩ := h.form
  have H := hidI h
  have G := hidI hg
  have ll := h.1
  have N0 := hidI (next_start w g (.slice a l.length c) s)
  obtain ⟨b, off, rfl, j1, j2, k1, k2⟩ := stps_at h q7
  obtain ⟨hk', hx'⟩ := List.getElem?_eq_some_iff.1 hx
  rw [hx'] at k1 k2
  simp only [Nat.zero_mul, Nat.add_zero] at k1 k2
  have K1 := hidI k1
  have K2 := hidI k2
  have q7i : (0 : Int) < (l.length : Int) := by omega
  have q7f : ¬ l = [] := by intro e; rw [e] at q7; simp at q7
  have q7g : ¬ l.length = 0 := by omega
  have q7h : ¬ (l.length : Int) ≤ 0 := by omega
  have q7j : l.isEmpty = false := by simp [q7f]
  clear h hg k1 k2 hk' hx hx'
  go_enter Try.func9, Try.ntmps9
  go_upto_region 11 with (first | (go_at_call 19; refine (rspec_at _ g l _ (H.out.bel N0.out.2.2.2) G.out).mono ?_; rintro e w1 ⟨rfl, hb⟩; rw [hs]; have N1 := hidI (N0.out.bel hb); obtain ⟨p0, p1, c0, c1, c2, c3, c4, c5, f0, f1, f2, f3, f4, f5, g0, g1, g2, g3, g4, g5, h0, h1, h2, h3, h4, h5⟩ := N1.out.c; clear hb) | (go_at_call 20; refine (rstatus_at _ s).mono ?_; rintro e w2 ⟨rfl, hb⟩; rw [ht]; have N2 := hidI (N1.out.bel hb); clear p0 p1 c0 c1 c2 c3 c4 c5 f0 f1 f2 f3 f4 f5 g0 g1 g2 g3 g4 g5 h0 h1 h2 h3 h4 h5; obtain ⟨p0, p1, c0, c1, c2, c3, c4, c5, f0, f1, f2, f3, f4, f5, g0, g1, g2, g3, g4, g5, h0, h1, h2, h3, h4, h5⟩ := N2.out.c; clear hb))
  obtain ⟨WB, hWB, NWB⟩ : ∃ W : World, W = ((((((w2.setCell ⟨w.heap.size + 1, 0, none⟩ (.string ⟨s.a.toArray⟩)).setCell ⟨w.heap.size + 1, 1, none⟩ (.string ⟨g.toArray⟩)).setCell ⟨w.heap.size + 1, 2, none⟩ (.int .i64 2)).setCell ⟨w.heap.size + 1, 3, none⟩ (.int .i64 0)).setCell ⟨w.heap.size + 1, 4, none⟩ (.int .i64 0)).setCell ⟨w.heap.size + 1, 5, none⟩ (.int .i64 0)) ∧ NextI w W g (.slice (some ⟨b, off, none⟩) l.length c) (begunS s.a g) := ⟨_, rfl, N2.out.begun (begunS s.a g)⟩
  rw [← hWB]
  clear hWB
  have NWB := hidI NWB
  clear p0 p1 c0 c1 c2 c3 c4 c5 f0 f1 f2 f3 f4 f5 g0 g1 g2 g3 g4 g5 h0 h1 h2 h3 h4 h5
  obtain ⟨p0, p1, c0, c1, c2, c3, c4, c5, f0, f1, f2, f3, f4, f5, g0, g1, g2, g3, g4, g5, h0, h1, h2, h3, h4, h5⟩ := NWB.out.c
  simp only [begunS] at c0 c1 c2 c3 c4 c5
  have m1 := cell_bel NWB.out.2.2.2 K1.out
  have m2 := cell_bel NWB.out.2.2.2 K2.out
  have N3 := hidI (NWB.out.bel (bel_alloc WB (.cells #[.int .i64 x.w, .int .i64 x.p] 34)))
  obtain ⟨p0', p1', c0', c1', c2', c3', c4', c5', f0', f1', f2', f3', f4', f5', g0', g1', g2', g3', g4', g5', h0', h1', h2', h3', h4', h5'⟩ := N3.out.c
  simp only [begunS] at c0' c1' c2' c3' c4' c5'
  go_upto_region 22 with fail
  obtain ⟨W4, hW4, NW4⟩ : ∃ W : World, W = (((WB.alloc (.cells #[.int .i64 x.w, .int .i64 x.p] 34)).setCell ⟨w.heap.size + 1, 2, none⟩ (.int .i64 3)).setCell ⟨w.heap.size + 1, 5, none⟩ (.int .i64 now)) ∧ NextI w W g (.slice (some ⟨b, off, none⟩) l.length c) (waitS (begunS s.a g) now) := ⟨_, rfl, N3.out.wait now⟩
  rw [← hW4]
  clear hW4
  have NW4 := hidI NW4
  clear p0 p1 c0 c1 c2 c3 c4 c5 f0 f1 f2 f3 f4 f5 g0 g1 g2 g3 g4 g5 h0 h1 h2 h3 h4 h5 p0' p1' c0' c1' c2' c3' c4' c5' f0' f1' f2' f3' f4' f5' g0' g1' g2' g3' g4' g5' h0' h1' h2' h3' h4' h5'
  obtain ⟨p0, p1, c0, c1, c2, c3, c4, c5, f0, f1, f2, f3, f4, f5, g0, g1, g2, g3, g4, g5, h0, h1, h2, h3, h4, h5⟩ := NW4.out.c
  simp only [waitS, begunS] at c0 c1 c2 c3 c4 c5
  go_wp2_with fail
  obtain ⟨z0, z1, z2, z3, z4, z5, -⟩ := (NW4.out.2.2.1.set (waitS (begunS s.a g) now)).c
  refine bodyPost_ret (v := .tuple #[staV (waitS (begunS s.a g) now), .int .i64 0]) ?_ rfl ⟨rfl, bel_set6 NW4.out.2.2.2 (by omega) (waitS (begunS s.a g) now)⟩
  simp only [set6, waitS, begunS] at z0 z1 z2 z3 z4 z5
  simp [results, Try.results9, go_sem, z0, z1, z2, z3, z4, z5, staV, waitS, begunS]
set_option maxRecDepth 100000 in
set_option maxHeartbeats 4000000 in
theorem rbegun_weight (w : World) (g : List UInt8) (l : List Stp) (v : Value) (s : Sta) (now order : Int) (h : StpsAre w l v) (hg : g.length ≤ 9223372036854775807) (hs : specOk g l = true) (ht : staOk s = true) (hT : 0 ≤ now) (hT2 : now ≤ 1099511627776) (ho : 0 ≤ order) (ho2 : order ≤ 3) (q1 : (g == s.a) = false) (q1n : (g != s.a) = true) (q2 : (g == s.c) = false) (q2n : (g != s.c) = true) (q5 : (order == 2) = false) (q5n : (order != 2) = true) (q6 : (order == 3) = false) (q6n : (order != 3) = true) (x : Stp) (q7 : 0 < l.length) (hx : l[0]? = some x) (q8 : ¬ x.w < 0) (r : Sta) (REC : ∀ W : World, Below w.heap.size w W → Calls Try.prog 9 #[.agg #[.string ⟨g.toArray⟩, v], .agg #[.string ⟨(onS (toS (begunS s.a g) x.w)).a.toArray⟩, .string ⟨(onS (toS (begunS s.a g) x.w)).c.toArray⟩, .int .i64 (onS (toS (begunS s.a g) x.w)).ph, .int .i64 (onS (toS (begunS s.a g) x.w)).st, .int .i64 (onS (toS (begunS s.a g) x.w)).we, .int .i64 (onS (toS (begunS s.a g) x.w)).si], .int .i64 now, .int .i64 order] W fun e w' => e = .returned (.tuple #[.agg #[.string ⟨r.a.toArray⟩, .string ⟨r.c.toArray⟩, .int .i64 r.ph, .int .i64 r.st, .int .i64 r.we, .int .i64 r.si], .int .i64 0]) ∧ Below W.heap.size W w') :
    Calls Try.prog 9 #[.agg #[.string ⟨g.toArray⟩, v], staV s, .int .i64 now, .int .i64 order] w fun e w' => e = .returned (.tuple #[staV (r), .int .i64 0]) ∧ Below w.heap.size w w' := by
  have E0 : Hid (staV s = .agg #[.string ⟨s.a.toArray⟩, .string ⟨s.c.toArray⟩, .int .i64 s.ph, .int .i64 s.st, .int .i64 s.we, .int .i64 s.si]) := hidI rfl
  have E1 := E0.out
  rw [E1]
  clear E0 E1
  obtain ⟨a, c, rfl⟩ := h.form
  have H := hidI h
  have G := hidI hg
  have ll := h.1
  have N0 := hidI (next_start w g (.slice a l.length c) s)
  obtain ⟨b, off, rfl, j1, j2, k1, k2⟩ := stps_at h q7
  obtain ⟨hk', hx'⟩ := List.getElem?_eq_some_iff.1 hx
  rw [hx'] at k1 k2
  simp only [Nat.zero_mul, Nat.add_zero] at k1 k2
  have K1 := hidI k1
  have K2 := hidI k2
  have q7i : (0 : Int) < (l.length : Int) := by omega
  have q7f : ¬ l = [] := by intro e; rw [e] at q7; simp at q7
  have q7g : ¬ l.length = 0 := by omega
  have q7h : ¬ (l.length : Int) ≤ 0 := by omega
  have q7j : l.isEmpty = false := by simp [q7f]
  clear h hg k1 k2 hk' hx hx'
  have RC := hidI REC
  clear REC
  simp only [onS, toS, begunS, Int.zero_add] at RC
  go_enter Try.func9, Try.ntmps9
  go_upto_region 11 with (first | (go_at_call 19; refine (rspec_at _ g l _ (H.out.bel N0.out.2.2.2) G.out).mono ?_; rintro e w1 ⟨rfl, hb⟩; rw [hs]; have N1 := hidI (N0.out.bel hb); obtain ⟨p0, p1, c0, c1, c2, c3, c4, c5, f0, f1, f2, f3, f4, f5, g0, g1, g2, g3, g4, g5, h0, h1, h2, h3, h4, h5⟩ := N1.out.c; clear hb) | (go_at_call 20; refine (rstatus_at _ s).mono ?_; rintro e w2 ⟨rfl, hb⟩; rw [ht]; have N2 := hidI (N1.out.bel hb); clear p0 p1 c0 c1 c2 c3 c4 c5 f0 f1 f2 f3 f4 f5 g0 g1 g2 g3 g4 g5 h0 h1 h2 h3 h4 h5; obtain ⟨p0, p1, c0, c1, c2, c3, c4, c5, f0, f1, f2, f3, f4, f5, g0, g1, g2, g3, g4, g5, h0, h1, h2, h3, h4, h5⟩ := N2.out.c; clear hb))
  obtain ⟨WB, hWB, NWB⟩ : ∃ W : World, W = ((((((w2.setCell ⟨w.heap.size + 1, 0, none⟩ (.string ⟨s.a.toArray⟩)).setCell ⟨w.heap.size + 1, 1, none⟩ (.string ⟨g.toArray⟩)).setCell ⟨w.heap.size + 1, 2, none⟩ (.int .i64 2)).setCell ⟨w.heap.size + 1, 3, none⟩ (.int .i64 0)).setCell ⟨w.heap.size + 1, 4, none⟩ (.int .i64 0)).setCell ⟨w.heap.size + 1, 5, none⟩ (.int .i64 0)) ∧ NextI w W g (.slice (some ⟨b, off, none⟩) l.length c) (begunS s.a g) := ⟨_, rfl, N2.out.begun (begunS s.a g)⟩
  rw [← hWB]
  clear hWB
  have NWB := hidI NWB
  clear p0 p1 c0 c1 c2 c3 c4 c5 f0 f1 f2 f3 f4 f5 g0 g1 g2 g3 g4 g5 h0 h1 h2 h3 h4 h5
  obtain ⟨p0, p1, c0, c1, c2, c3, c4, c5, f0, f1, f2, f3, f4, f5, g0, g1, g2, g3, g4, g5, h0, h1, h2, h3, h4, h5⟩ := NWB.out.c
  simp only [begunS] at c0 c1 c2 c3 c4 c5
  have m1 := cell_bel NWB.out.2.2.2 K1.out
  have m2 := cell_bel NWB.out.2.2.2 K2.out
  have N3 := hidI (NWB.out.bel (bel_alloc WB (.cells #[.int .i64 x.w, .int .i64 x.p] 34)))
  obtain ⟨p0', p1', c0', c1', c2', c3', c4', c5', f0', f1', f2', f3', f4', f5', g0', g1', g2', g3', g4', g5', h0', h1', h2', h3', h4', h5'⟩ := N3.out.c
  simp only [begunS] at c0' c1' c2' c3' c4' c5'
  go_upto_region 30 with fail
  obtain ⟨W4, hW4, NW4⟩ : ∃ W : World, W = (((((WB.alloc (.cells #[.int .i64 x.w, .int .i64 x.p] 34)).setCell ⟨w.heap.size + 1, 4, none⟩ (.int .i64 x.w)).setCell ⟨w.heap.size + 1, 2, none⟩ (.int .i64 2)).setCell ⟨w.heap.size + 1, 5, none⟩ (.int .i64 0)).setCell ⟨w.heap.size + 1, 3, none⟩ (.int .i64 1)) ∧ NextI w W g (.slice (some ⟨b, off, none⟩) l.length c) (onS (toS (begunS s.a g) x.w)) := ⟨_, rfl, (N3.out.to x.w).on⟩
  rw [← hW4]
  clear hW4
  have NW4 := hidI NW4
  clear p0 p1 c0 c1 c2 c3 c4 c5 f0 f1 f2 f3 f4 f5 g0 g1 g2 g3 g4 g5 h0 h1 h2 h3 h4 h5 p0' p1' c0' c1' c2' c3' c4' c5' f0' f1' f2' f3' f4' f5' g0' g1' g2' g3' g4' g5' h0' h1' h2' h3' h4' h5'
  obtain ⟨p0, p1, c0, c1, c2, c3, c4, c5, f0, f1, f2, f3, f4, f5, g0, g1, g2, g3, g4, g5, h0, h1, h2, h3, h4, h5⟩ := NW4.out.c
  simp only [onS, toS, begunS, Int.zero_add] at c0 c1 c2 c3 c4 c5
  go_wp2_with (go_at_call 9; refine (RC.out _ (by exact NW4.out.2.2.2)).mono ?_; rintro e w5 ⟨rfl, hb⟩; have N5 := hidI (NW4.out.bel hb); clear p0 p1 c0 c1 c2 c3 c4 c5 f0 f1 f2 f3 f4 f5 g0 g1 g2 g3 g4 g5 h0 h1 h2 h3 h4 h5; obtain ⟨p0, p1, c0, c1, c2, c3, c4, c5, f0, f1, f2, f3, f4, f5, g0, g1, g2, g3, g4, g5, h0, h1, h2, h3, h4, h5⟩ := N5.out.c; clear hb)
  obtain ⟨z0, z1, z2, z3, z4, z5, -⟩ := (N5.out.2.2.1.set (r)).c
  refine bodyPost_ret (v := .tuple #[staV (r), .int .i64 0]) ?_ rfl ⟨rfl, bel_set6 N5.out.2.2.2 (by omega) (r)⟩
  simp only [set6] at z0 z1 z2 z3 z4 z5
  simp [results, Try.results9, go_sem, z0, z1, z2, z3, z4, z5, staV]
end Go.Proofs.Ytiaaphflbkcojaa
