/- What NextStatus of package stairwellref does: case by case. -/
import Derived.Test.YtiaaphflbkcojaaHf
import Derived.Test.YtiaaphflbkcojaaHn
set_option linter.unusedSimpArgs false
set_option linter.unusedVariables false
namespace Go.Proofs.Ytiaaphflbkcojaa
open Go.RowKit

theorem PBox.far {w : World} {g k i : Nat} {n : List UInt8} {v x : Value} (h : PBox w g n v) (hk : g ≠ k) : PBox (w.setCell ⟨k, i, none⟩ x) g n v :=
  (Below.heap_setCell w ⟨k, i, none⟩ x g hk).trans h
theorem NextI.on {w wr : World} {g : List UInt8} {v : Value} {s : Sta} (h : NextI w wr g v s) : NextI w (((wr.setCell ⟨w.heap.size + 1, 2, none⟩ (.int .i64 2)).setCell ⟨w.heap.size + 1, 5, none⟩ (.int .i64 0)).setCell ⟨w.heap.size + 1, 3, none⟩ (.int .i64 (s.st + 1))) g v (onS s) :=
  ⟨((h.1.far (by omega)).far (by omega)).far (by omega), ((h.2.1.ph 2).si 0).st (s.st + 1), ((h.2.2.1.far (by omega)).far (by omega)).far (by omega), bel_set (bel_set (bel_set h.2.2.2 (by omega) _ _) (by omega) _ _) (by omega) _ _⟩
theorem NextI.to {w wr : World} {g : List UInt8} {v : Value} {s : Sta} (h : NextI w wr g v s) (n : Int) : NextI w (wr.setCell ⟨w.heap.size + 1, 4, none⟩ (.int .i64 n)) g v (toS s n) :=
  ⟨h.1.far (by omega), h.2.1.we n, h.2.2.1.far (by omega), bel_set h.2.2.2 (by omega) _ _⟩
theorem NextI.wait {w wr : World} {g : List UInt8} {v : Value} {s : Sta} (h : NextI w wr g v s) (n : Int) : NextI w ((wr.setCell ⟨w.heap.size + 1, 2, none⟩ (.int .i64 3)).setCell ⟨w.heap.size + 1, 5, none⟩ (.int .i64 n)) g v (waitS s n) :=
  ⟨(h.1.far (by omega)).far (by omega), (h.2.1.ph 3).si n, (h.2.2.1.far (by omega)).far (by omega), bel_set (bel_set h.2.2.2 (by omega) _ _) (by omega) _ _⟩

set_option maxRecDepth 100000 in
set_option maxHeartbeats 4000000 in
theorem rnext_bad1 (w : World) (g : List UInt8) (l : List Stp) (v : Value) (s : Sta) (now order : Int) (h : StpsAre w l v) (hg : g.length ≤ 9223372036854775807) (hs : specOk g l = false) :
    Calls Try.prog 9 #[.agg #[.string ⟨g.toArray⟩, v], staV s, .int .i64 now, .int .i64 order] w fun e w' => e = .returned (.tuple #[staV (s), .int .i64 1]) ∧ Below w.heap.size w w' := by
  have E0 : Hid (staV s = .agg #[.string ⟨s.a.toArray⟩, .string ⟨s.c.toArray⟩, .int .i64 s.ph, .int .i64 s.st, .int .i64 s.we, .int .i64 s.si]) := hidI rfl
  have E1 := E0.out
  rw [E1]
  clear E0 E1
  obtain ⟨a, c, rfl⟩ := h.form
  have H := hidI h
  have G := hidI hg
  have ll := h.1
  have N0 := hidI (next_start w g (.slice a l.length c) s)
  clear h hg
  go_enter Try.func9, Try.ntmps9
  go_wp2_with (go_at_call 19; refine (rspec_at _ g l _ (H.out.bel N0.out.2.2.2) G.out).mono ?_; rintro e w1 ⟨rfl, hb⟩; rw [hs]; have N1 := hidI (N0.out.bel hb); obtain ⟨p0, p1, c0, c1, c2, c3, c4, c5, f0, f1, f2, f3, f4, f5, g0, g1, g2, g3, g4, g5, h0, h1, h2, h3, h4, h5⟩ := N1.out.c; clear hb)
  obtain ⟨z0, z1, z2, z3, z4, z5, -⟩ := (N1.out.2.2.1.set (s)).c
  refine bodyPost_ret (v := .tuple #[staV (s), .int .i64 1]) ?_ rfl ⟨rfl, bel_set6 N1.out.2.2.2 (by omega) (s)⟩
  simp only [set6] at z0 z1 z2 z3 z4 z5
  simp [results, Try.results9, go_sem, z0, z1, z2, z3, z4, z5, staV]
set_option maxRecDepth 100000 in
set_option maxHeartbeats 4000000 in
theorem rnext_bad2 (w : World) (g : List UInt8) (l : List Stp) (v : Value) (s : Sta) (now order : Int) (h : StpsAre w l v) (hg : g.length ≤ 9223372036854775807) (hs : specOk g l = true) (ht : staOk s = false) :
    Calls Try.prog 9 #[.agg #[.string ⟨g.toArray⟩, v], staV s, .int .i64 now, .int .i64 order] w fun e w' => e = .returned (.tuple #[staV (s), .int .i64 1]) ∧ Below w.heap.size w w' := by
  have E0 : Hid (staV s = .agg #[.string ⟨s.a.toArray⟩, .string ⟨s.c.toArray⟩, .int .i64 s.ph, .int .i64 s.st, .int .i64 s.we, .int .i64 s.si]) := hidI rfl
  have E1 := E0.out
  rw [E1]
  clear E0 E1
  obtain ⟨a, c, rfl⟩ := h.form
  have H := hidI h
  have G := hidI hg
  have ll := h.1
  have N0 := hidI (next_start w g (.slice a l.length c) s)
  clear h hg
  go_enter Try.func9, Try.ntmps9
  go_wp2_with (first | (go_at_call 19; refine (rspec_at _ g l _ (H.out.bel N0.out.2.2.2) G.out).mono ?_; rintro e w1 ⟨rfl, hb⟩; rw [hs]; have N1 := hidI (N0.out.bel hb); obtain ⟨p0, p1, c0, c1, c2, c3, c4, c5, f0, f1, f2, f3, f4, f5, g0, g1, g2, g3, g4, g5, h0, h1, h2, h3, h4, h5⟩ := N1.out.c; clear hb) | (go_at_call 20; refine (rstatus_at _ s).mono ?_; rintro e w2 ⟨rfl, hb⟩; rw [ht]; have N2 := hidI (N1.out.bel hb); clear p0 p1 c0 c1 c2 c3 c4 c5 f0 f1 f2 f3 f4 f5 g0 g1 g2 g3 g4 g5 h0 h1 h2 h3 h4 h5; obtain ⟨p0, p1, c0, c1, c2, c3, c4, c5, f0, f1, f2, f3, f4, f5, g0, g1, g2, g3, g4, g5, h0, h1, h2, h3, h4, h5⟩ := N2.out.c; clear hb))
  obtain ⟨z0, z1, z2, z3, z4, z5, -⟩ := (N2.out.2.2.1.set (s)).c
  refine bodyPost_ret (v := .tuple #[staV (s), .int .i64 1]) ?_ rfl ⟨rfl, bel_set6 N2.out.2.2.2 (by omega) (s)⟩
  simp only [set6] at z0 z1 z2 z3 z4 z5
  simp [results, Try.results9, go_sem, z0, z1, z2, z3, z4, z5, staV]
set_option maxRecDepth 100000 in
set_option maxHeartbeats 4000000 in
theorem rnext_bad3 (w : World) (g : List UInt8) (l : List Stp) (v : Value) (s : Sta) (now order : Int) (h : StpsAre w l v) (hg : g.length ≤ 9223372036854775807) (hs : specOk g l = true) (ht : staOk s = true) (hT : now < 0) :
    Calls Try.prog 9 #[.agg #[.string ⟨g.toArray⟩, v], staV s, .int .i64 now, .int .i64 order] w fun e w' => e = .returned (.tuple #[staV (s), .int .i64 8]) ∧ Below w.heap.size w w' := by
  have E0 : Hid (staV s = .agg #[.string ⟨s.a.toArray⟩, .string ⟨s.c.toArray⟩, .int .i64 s.ph, .int .i64 s.st, .int .i64 s.we, .int .i64 s.si]) := hidI rfl
  have E1 := E0.out
  rw [E1]
  clear E0 E1
  obtain ⟨a, c, rfl⟩ := h.form
  have H := hidI h
  have G := hidI hg
  have ll := h.1
  have N0 := hidI (next_start w g (.slice a l.length c) s)
  clear h hg
  go_enter Try.func9, Try.ntmps9
  go_wp2_with (first | (go_at_call 19; refine (rspec_at _ g l _ (H.out.bel N0.out.2.2.2) G.out).mono ?_; rintro e w1 ⟨rfl, hb⟩; rw [hs]; have N1 := hidI (N0.out.bel hb); obtain ⟨p0, p1, c0, c1, c2, c3, c4, c5, f0, f1, f2, f3, f4, f5, g0, g1, g2, g3, g4, g5, h0, h1, h2, h3, h4, h5⟩ := N1.out.c; clear hb) | (go_at_call 20; refine (rstatus_at _ s).mono ?_; rintro e w2 ⟨rfl, hb⟩; rw [ht]; have N2 := hidI (N1.out.bel hb); clear p0 p1 c0 c1 c2 c3 c4 c5 f0 f1 f2 f3 f4 f5 g0 g1 g2 g3 g4 g5 h0 h1 h2 h3 h4 h5; obtain ⟨p0, p1, c0, c1, c2, c3, c4, c5, f0, f1, f2, f3, f4, f5, g0, g1, g2, g3, g4, g5, h0, h1, h2, h3, h4, h5⟩ := N2.out.c; clear hb))
  obtain ⟨z0, z1, z2, z3, z4, z5, -⟩ := (N2.out.2.2.1.set (s)).c
  refine bodyPost_ret (v := .tuple #[staV (s), .int .i64 8]) ?_ rfl ⟨rfl, bel_set6 N2.out.2.2.2 (by omega) (s)⟩
  simp only [set6] at z0 z1 z2 z3 z4 z5
  simp [results, Try.results9, go_sem, z0, z1, z2, z3, z4, z5, staV]
set_option maxRecDepth 100000 in
set_option maxHeartbeats 4000000 in
theorem rnext_bad4 (w : World) (g : List UInt8) (l : List Stp) (v : Value) (s : Sta) (now order : Int) (h : StpsAre w l v) (hg : g.length ≤ 9223372036854775807) (hs : specOk g l = true) (ht : staOk s = true) (hT : 0 ≤ now) (hT2 : 1099511627776 < now) :
    Calls Try.prog 9 #[.agg #[.string ⟨g.toArray⟩, v], staV s, .int .i64 now, .int .i64 order] w fun e w' => e = .returned (.tuple #[staV (s), .int .i64 8]) ∧ Below w.heap.size w w' := by
  have E0 : Hid (staV s = .agg #[.string ⟨s.a.toArray⟩, .string ⟨s.c.toArray⟩, .int .i64 s.ph, .int .i64 s.st, .int .i64 s.we, .int .i64 s.si]) := hidI rfl
  have E1 := E0.out
  rw [E1]
  clear E0 E1
  obtain ⟨a, c, rfl⟩ := h.form
  have H := hidI h
  have G := hidI hg
  have ll := h.1
  have N0 := hidI (next_start w g (.slice a l.length c) s)
  clear h hg
  go_enter Try.func9, Try.ntmps9
  go_wp2_with (first | (go_at_call 19; refine (rspec_at _ g l _ (H.out.bel N0.out.2.2.2) G.out).mono ?_; rintro e w1 ⟨rfl, hb⟩; rw [hs]; have N1 := hidI (N0.out.bel hb); obtain ⟨p0, p1, c0, c1, c2, c3, c4, c5, f0, f1, f2, f3, f4, f5, g0, g1, g2, g3, g4, g5, h0, h1, h2, h3, h4, h5⟩ := N1.out.c; clear hb) | (go_at_call 20; refine (rstatus_at _ s).mono ?_; rintro e w2 ⟨rfl, hb⟩; rw [ht]; have N2 := hidI (N1.out.bel hb); clear p0 p1 c0 c1 c2 c3 c4 c5 f0 f1 f2 f3 f4 f5 g0 g1 g2 g3 g4 g5 h0 h1 h2 h3 h4 h5; obtain ⟨p0, p1, c0, c1, c2, c3, c4, c5, f0, f1, f2, f3, f4, f5, g0, g1, g2, g3, g4, g5, h0, h1, h2, h3, h4, h5⟩ := N2.out.c; clear hb))
  obtain ⟨z0, z1, z2, z3, z4, z5, -⟩ := (N2.out.2.2.1.set (s)).c
  refine bodyPost_ret (v := .tuple #[staV (s), .int .i64 8]) ?_ rfl ⟨rfl, bel_set6 N2.out.2.2.2 (by omega) (s)⟩
  simp only [set6] at z0 z1 z2 z3 z4 z5
  simp [results, Try.results9, go_sem, z0, z1, z2, z3, z4, z5, staV]
set_option maxRecDepth 100000 in
set_option maxHeartbeats 4000000 in
theorem rnext_bad5 (w : World) (g : List UInt8) (l : List Stp) (v : Value) (s : Sta) (now order : Int) (h : StpsAre w l v) (hg : g.length ≤ 9223372036854775807) (hs : specOk g l = true) (ht : staOk s = true) (hT : 0 ≤ now) (hT2 : now ≤ 1099511627776) (ho : order < 0) :
    Calls Try.prog 9 #[.agg #[.string ⟨g.toArray⟩, v], staV s, .int .i64 now, .int .i64 order] w fun e w' => e = .returned (.tuple #[staV (s), .int .i64 9]) ∧ Below w.heap.size w w' := by
  have E0 : Hid (staV s = .agg #[.string ⟨s.a.toArray⟩, .string ⟨s.c.toArray⟩, .int .i64 s.ph, .int .i64 s.st, .int .i64 s.we, .int .i64 s.si]) := hidI rfl
  have E1 := E0.out
  rw [E1]
  clear E0 E1
  obtain ⟨a, c, rfl⟩ := h.form
  have H := hidI h
  have G := hidI hg
  have ll := h.1
  have N0 := hidI (next_start w g (.slice a l.length c) s)
  clear h hg
  go_enter Try.func9, Try.ntmps9
  go_wp2_with (first | (go_at_call 19; refine (rspec_at _ g l _ (H.out.bel N0.out.2.2.2) G.out).mono ?_; rintro e w1 ⟨rfl, hb⟩; rw [hs]; have N1 := hidI (N0.out.bel hb); obtain ⟨p0, p1, c0, c1, c2, c3, c4, c5, f0, f1, f2, f3, f4, f5, g0, g1, g2, g3, g4, g5, h0, h1, h2, h3, h4, h5⟩ := N1.out.c; clear hb) | (go_at_call 20; refine (rstatus_at _ s).mono ?_; rintro e w2 ⟨rfl, hb⟩; rw [ht]; have N2 := hidI (N1.out.bel hb); clear p0 p1 c0 c1 c2 c3 c4 c5 f0 f1 f2 f3 f4 f5 g0 g1 g2 g3 g4 g5 h0 h1 h2 h3 h4 h5; obtain ⟨p0, p1, c0, c1, c2, c3, c4, c5, f0, f1, f2, f3, f4, f5, g0, g1, g2, g3, g4, g5, h0, h1, h2, h3, h4, h5⟩ := N2.out.c; clear hb))
  obtain ⟨z0, z1, z2, z3, z4, z5, -⟩ := (N2.out.2.2.1.set (s)).c
  refine bodyPost_ret (v := .tuple #[staV (s), .int .i64 9]) ?_ rfl ⟨rfl, bel_set6 N2.out.2.2.2 (by omega) (s)⟩
  simp only [set6] at z0 z1 z2 z3 z4 z5
  simp [results, Try.results9, go_sem, z0, z1, z2, z3, z4, z5, staV]
set_option maxRecDepth 100000 in
set_option maxHeartbeats 4000000 in
theorem rnext_bad6 (w : World) (g : List UInt8) (l : List Stp) (v : Value) (s : Sta) (now order : Int) (h : StpsAre w l v) (hg : g.length ≤ 9223372036854775807) (hs : specOk g l = true) (ht : staOk s = true) (hT : 0 ≤ now) (hT2 : now ≤ 1099511627776) (ho : 0 ≤ order) (ho2 : 3 < order) :
    Calls Try.prog 9 #[.agg #[.string ⟨g.toArray⟩, v], staV s, .int .i64 now, .int .i64 order] w fun e w' => e = .returned (.tuple #[staV (s), .int .i64 9]) ∧ Below w.heap.size w w' := by
  have E0 : Hid (staV s = .agg #[.string ⟨s.a.toArray⟩, .string ⟨s.c.toArray⟩, .int .i64 s.ph, .int .i64 s.st, .int .i64 s.we, .int .i64 s.si]) := hidI rfl
  have E1 := E0.out
  rw [E1]
  clear E0 E1
  obtain ⟨a, c, rfl⟩ := h.form
  have H := hidI h
  have G := hidI hg
  have ll := h.1
  have N0 := hidI (next_start w g (.slice a l.length c) s)
  clear h hg
  go_enter Try.func9, Try.ntmps9
  go_wp2_with (first | (go_at_call 19; refine (rspec_at _ g l _ (H.out.bel N0.out.2.2.2) G.out).mono ?_; rintro e w1 ⟨rfl, hb⟩; rw [hs]; have N1 := hidI (N0.out.bel hb); obtain ⟨p0, p1, c0, c1, c2, c3, c4, c5, f0, f1, f2, f3, f4, f5, g0, g1, g2, g3, g4, g5, h0, h1, h2, h3, h4, h5⟩ := N1.out.c; clear hb) | (go_at_call 20; refine (rstatus_at _ s).mono ?_; rintro e w2 ⟨rfl, hb⟩; rw [ht]; have N2 := hidI (N1.out.bel hb); clear p0 p1 c0 c1 c2 c3 c4 c5 f0 f1 f2 f3 f4 f5 g0 g1 g2 g3 g4 g5 h0 h1 h2 h3 h4 h5; obtain ⟨p0, p1, c0, c1, c2, c3, c4, c5, f0, f1, f2, f3, f4, f5, g0, g1, g2, g3, g4, g5, h0, h1, h2, h3, h4, h5⟩ := N2.out.c; clear hb))
  obtain ⟨z0, z1, z2, z3, z4, z5, -⟩ := (N2.out.2.2.1.set (s)).c
  refine bodyPost_ret (v := .tuple #[staV (s), .int .i64 9]) ?_ rfl ⟨rfl, bel_set6 N2.out.2.2.2 (by omega) (s)⟩
  simp only [set6] at z0 z1 z2 z3 z4 z5
  simp [results, Try.results9, go_sem, z0, z1, z2, z3, z4, z5, staV]
set_option maxRecDepth 100000 in
set_option maxHeartbeats 4000000 in
theorem rnext_back (w : World) (g : List UInt8) (l : List Stp) (v : Value) (s : Sta) (now order : Int) (h : StpsAre w l v) (hg : g.length ≤ 9223372036854775807) (hs : specOk g l = true) (ht : staOk s = true) (hT : 0 ≤ now) (hT2 : now ≤ 1099511627776) (ho : 0 ≤ order) (ho2 : order ≤ 3) (q1 : (g == s.a) = true) (q1n : (g != s.a) = false) (q2 : (g == s.c) = false) (q2n : (g != s.c) = true) :
    Calls Try.prog 9 #[.agg #[.string ⟨g.toArray⟩, v], staV s, .int .i64 now, .int .i64 order] w fun e w' => e = .returned (.tuple #[staV (healthyS s.a), .int .i64 0]) ∧ Below w.heap.size w w' := by
  have E0 : Hid (staV s = .agg #[.string ⟨s.a.toArray⟩, .string ⟨s.c.toArray⟩, .int .i64 s.ph, .int .i64 s.st, .int .i64 s.we, .int .i64 s.si]) := hidI rfl
  have E1 := E0.out
  rw [E1]
  clear E0 E1
  obtain ⟨a, c, rfl⟩ := h.form
  have H := hidI h
  have G := hidI hg
  have ll := h.1
  have N0 := hidI (next_start w g (.slice a l.length c) s)
  clear h hg
  go_enter Try.func9, Try.ntmps9
  go_wp2_with (first | (go_at_call 19; refine (rspec_at _ g l _ (H.out.bel N0.out.2.2.2) G.out).mono ?_; rintro e w1 ⟨rfl, hb⟩; rw [hs]; have N1 := hidI (N0.out.bel hb); obtain ⟨p0, p1, c0, c1, c2, c3, c4, c5, f0, f1, f2, f3, f4, f5, g0, g1, g2, g3, g4, g5, h0, h1, h2, h3, h4, h5⟩ := N1.out.c; clear hb) | (go_at_call 20; refine (rstatus_at _ s).mono ?_; rintro e w2 ⟨rfl, hb⟩; rw [ht]; have N2 := hidI (N1.out.bel hb); clear p0 p1 c0 c1 c2 c3 c4 c5 f0 f1 f2 f3 f4 f5 g0 g1 g2 g3 g4 g5 h0 h1 h2 h3 h4 h5; obtain ⟨p0, p1, c0, c1, c2, c3, c4, c5, f0, f1, f2, f3, f4, f5, g0, g1, g2, g3, g4, g5, h0, h1, h2, h3, h4, h5⟩ := N2.out.c; clear hb) | (go_at_call 21; refine (rhealthy_b _ (s.a)).mono ?_; rintro e w5 ⟨rfl, hb⟩; have N5 := hidI (N2.out.bel hb); clear p0 p1 c0 c1 c2 c3 c4 c5 f0 f1 f2 f3 f4 f5 g0 g1 g2 g3 g4 g5 h0 h1 h2 h3 h4 h5; obtain ⟨p0, p1, c0, c1, c2, c3, c4, c5, f0, f1, f2, f3, f4, f5, g0, g1, g2, g3, g4, g5, h0, h1, h2, h3, h4, h5⟩ := N5.out.c; clear hb))
  obtain ⟨z0, z1, z2, z3, z4, z5, -⟩ := (N5.out.2.2.1.set (healthyS s.a)).c
  refine bodyPost_ret (v := .tuple #[staV (healthyS s.a), .int .i64 0]) ?_ rfl ⟨rfl, bel_set6 N5.out.2.2.2 (by omega) (healthyS s.a)⟩
  simp only [set6, healthyS] at z0 z1 z2 z3 z4 z5
  simp [results, Try.results9, go_sem, z0, z1, z2, z3, z4, z5, staV, healthyS]
set_option maxRecDepth 100000 in
set_option maxHeartbeats 4000000 in
theorem rnext_still1 (w : World) (g : List UInt8) (l : List Stp) (v : Value) (s : Sta) (now order : Int) (h : StpsAre w l v) (hg : g.length ≤ 9223372036854775807) (hs : specOk g l = true) (ht : staOk s = true) (hT : 0 ≤ now) (hT2 : now ≤ 1099511627776) (ho : 0 ≤ order) (ho2 : order ≤ 3) (q1 : (g == s.a) = true) (q1n : (g != s.a) = false) (q2 : (g == s.c) = true) (q2n : (g != s.c) = false) (q3 : (s.ph == 1) = true) (q3n : (s.ph != 1) = false) :
    Calls Try.prog 9 #[.agg #[.string ⟨g.toArray⟩, v], staV s, .int .i64 now, .int .i64 order] w fun e w' => e = .returned (.tuple #[staV (s), .int .i64 0]) ∧ Below w.heap.size w w' := by
  have E0 : Hid (staV s = .agg #[.string ⟨s.a.toArray⟩, .string ⟨s.c.toArray⟩, .int .i64 s.ph, .int .i64 s.st, .int .i64 s.we, .int .i64 s.si]) := hidI rfl
  have E1 := E0.out
  rw [E1]
  clear E0 E1
  obtain ⟨a, c, rfl⟩ := h.form
  have H := hidI h
  have G := hidI hg
  have ll := h.1
  have N0 := hidI (next_start w g (.slice a l.length c) s)
  clear h hg
  go_enter Try.func9, Try.ntmps9
  go_wp2_with (first | (go_at_call 19; refine (rspec_at _ g l _ (H.out.bel N0.out.2.2.2) G.out).mono ?_; rintro e w1 ⟨rfl, hb⟩; rw [hs]; have N1 := hidI (N0.out.bel hb); obtain ⟨p0, p1, c0, c1, c2, c3, c4, c5, f0, f1, f2, f3, f4, f5, g0, g1, g2, g3, g4, g5, h0, h1, h2, h3, h4, h5⟩ := N1.out.c; clear hb) | (go_at_call 20; refine (rstatus_at _ s).mono ?_; rintro e w2 ⟨rfl, hb⟩; rw [ht]; have N2 := hidI (N1.out.bel hb); clear p0 p1 c0 c1 c2 c3 c4 c5 f0 f1 f2 f3 f4 f5 g0 g1 g2 g3 g4 g5 h0 h1 h2 h3 h4 h5; obtain ⟨p0, p1, c0, c1, c2, c3, c4, c5, f0, f1, f2, f3, f4, f5, g0, g1, g2, g3, g4, g5, h0, h1, h2, h3, h4, h5⟩ := N2.out.c; clear hb))
  obtain ⟨z0, z1, z2, z3, z4, z5, -⟩ := (N2.out.2.2.1.set (s)).c
  refine bodyPost_ret (v := .tuple #[staV (s), .int .i64 0]) ?_ rfl ⟨rfl, bel_set6 N2.out.2.2.2 (by omega) (s)⟩
  simp only [set6] at z0 z1 z2 z3 z4 z5
  simp [results, Try.results9, go_sem, z0, z1, z2, z3, z4, z5, staV]
set_option maxRecDepth 100000 in
set_option maxHeartbeats 4000000 in
theorem rnext_still4 (w : World) (g : List UInt8) (l : List Stp) (v : Value) (s : Sta) (now order : Int) (h : StpsAre w l v) (hg : g.length ≤ 9223372036854775807) (hs : specOk g l = true) (ht : staOk s = true) (hT : 0 ≤ now) (hT2 : now ≤ 1099511627776) (ho : 0 ≤ order) (ho2 : order ≤ 3) (q1 : (g == s.a) = false) (q1n : (g != s.a) = true) (q2 : (g == s.c) = true) (q2n : (g != s.c) = false) (q3 : (s.ph == 1) = false) (q3n : (s.ph != 1) = true) (q4 : (s.ph == 4) = true) (q4n : (s.ph != 4) = false) :
    Calls Try.prog 9 #[.agg #[.string ⟨g.toArray⟩, v], staV s, .int .i64 now, .int .i64 order] w fun e w' => e = .returned (.tuple #[staV (s), .int .i64 0]) ∧ Below w.heap.size w w' := by
  have E0 : Hid (staV s = .agg #[.string ⟨s.a.toArray⟩, .string ⟨s.c.toArray⟩, .int .i64 s.ph, .int .i64 s.st, .int .i64 s.we, .int .i64 s.si]) := hidI rfl
  have E1 := E0.out
  rw [E1]
  clear E0 E1
  obtain ⟨a, c, rfl⟩ := h.form
  have H := hidI h
  have G := hidI hg
  have ll := h.1
  have N0 := hidI (next_start w g (.slice a l.length c) s)
  clear h hg
  go_enter Try.func9, Try.ntmps9
  go_wp2_with (first | (go_at_call 19; refine (rspec_at _ g l _ (H.out.bel N0.out.2.2.2) G.out).mono ?_; rintro e w1 ⟨rfl, hb⟩; rw [hs]; have N1 := hidI (N0.out.bel hb); obtain ⟨p0, p1, c0, c1, c2, c3, c4, c5, f0, f1, f2, f3, f4, f5, g0, g1, g2, g3, g4, g5, h0, h1, h2, h3, h4, h5⟩ := N1.out.c; clear hb) | (go_at_call 20; refine (rstatus_at _ s).mono ?_; rintro e w2 ⟨rfl, hb⟩; rw [ht]; have N2 := hidI (N1.out.bel hb); clear p0 p1 c0 c1 c2 c3 c4 c5 f0 f1 f2 f3 f4 f5 g0 g1 g2 g3 g4 g5 h0 h1 h2 h3 h4 h5; obtain ⟨p0, p1, c0, c1, c2, c3, c4, c5, f0, f1, f2, f3, f4, f5, g0, g1, g2, g3, g4, g5, h0, h1, h2, h3, h4, h5⟩ := N2.out.c; clear hb))
  obtain ⟨z0, z1, z2, z3, z4, z5, -⟩ := (N2.out.2.2.1.set (s)).c
  refine bodyPost_ret (v := .tuple #[staV (s), .int .i64 0]) ?_ rfl ⟨rfl, bel_set6 N2.out.2.2.2 (by omega) (s)⟩
  simp only [set6] at z0 z1 z2 z3 z4 z5
  simp [results, Try.results9, go_sem, z0, z1, z2, z3, z4, z5, staV]
set_option maxRecDepth 100000 in
set_option maxHeartbeats 4000000 in
theorem rnext_prom (w : World) (g : List UInt8) (l : List Stp) (v : Value) (s : Sta) (now order : Int) (h : StpsAre w l v) (hg : g.length ≤ 9223372036854775807) (hs : specOk g l = true) (ht : staOk s = true) (hT : 0 ≤ now) (hT2 : now ≤ 1099511627776) (ho : 0 ≤ order) (ho2 : order ≤ 3) (q1 : (g == s.a) = false) (q1n : (g != s.a) = true) (q2 : (g == s.c) = true) (q2n : (g != s.c) = false) (q3 : (s.ph == 1) = false) (q3n : (s.ph != 1) = true) (q4 : (s.ph == 4) = false) (q4n : (s.ph != 4) = true) (q5 : (order == 2) = true) (q5n : (order != 2) = false) :
    Calls Try.prog 9 #[.agg #[.string ⟨g.toArray⟩, v], staV s, .int .i64 now, .int .i64 order] w fun e w' => e = .returned (.tuple #[staV (healthyS s.c), .int .i64 0]) ∧ Below w.heap.size w w' := by
  have E0 : Hid (staV s = .agg #[.string ⟨s.a.toArray⟩, .string ⟨s.c.toArray⟩, .int .i64 s.ph, .int .i64 s.st, .int .i64 s.we, .int .i64 s.si]) := hidI rfl
  have E1 := E0.out
  rw [E1]
  clear E0 E1
  obtain ⟨a, c, rfl⟩ := h.form
  have H := hidI h
  have G := hidI hg
  have ll := h.1
  have N0 := hidI (next_start w g (.slice a l.length c) s)
  clear h hg
  go_enter Try.func9, Try.ntmps9
  go_wp2_with (first | (go_at_call 19; refine (rspec_at _ g l _ (H.out.bel N0.out.2.2.2) G.out).mono ?_; rintro e w1 ⟨rfl, hb⟩; rw [hs]; have N1 := hidI (N0.out.bel hb); obtain ⟨p0, p1, c0, c1, c2, c3, c4, c5, f0, f1, f2, f3, f4, f5, g0, g1, g2, g3, g4, g5, h0, h1, h2, h3, h4, h5⟩ := N1.out.c; clear hb) | (go_at_call 20; refine (rstatus_at _ s).mono ?_; rintro e w2 ⟨rfl, hb⟩; rw [ht]; have N2 := hidI (N1.out.bel hb); clear p0 p1 c0 c1 c2 c3 c4 c5 f0 f1 f2 f3 f4 f5 g0 g1 g2 g3 g4 g5 h0 h1 h2 h3 h4 h5; obtain ⟨p0, p1, c0, c1, c2, c3, c4, c5, f0, f1, f2, f3, f4, f5, g0, g1, g2, g3, g4, g5, h0, h1, h2, h3, h4, h5⟩ := N2.out.c; clear hb) | (go_at_call 21; refine (rhealthy_b _ (s.c)).mono ?_; rintro e w5 ⟨rfl, hb⟩; have N5 := hidI (N2.out.bel hb); clear p0 p1 c0 c1 c2 c3 c4 c5 f0 f1 f2 f3 f4 f5 g0 g1 g2 g3 g4 g5 h0 h1 h2 h3 h4 h5; obtain ⟨p0, p1, c0, c1, c2, c3, c4, c5, f0, f1, f2, f3, f4, f5, g0, g1, g2, g3, g4, g5, h0, h1, h2, h3, h4, h5⟩ := N5.out.c; clear hb))
  obtain ⟨z0, z1, z2, z3, z4, z5, -⟩ := (N5.out.2.2.1.set (healthyS s.c)).c
  refine bodyPost_ret (v := .tuple #[staV (healthyS s.c), .int .i64 0]) ?_ rfl ⟨rfl, bel_set6 N5.out.2.2.2 (by omega) (healthyS s.c)⟩
  simp only [set6, healthyS] at z0 z1 z2 z3 z4 z5
  simp [results, Try.results9, go_sem, z0, z1, z2, z3, z4, z5, staV, healthyS]
set_option maxRecDepth 100000 in
set_option maxHeartbeats 4000000 in
theorem rnext_abort (w : World) (g : List UInt8) (l : List Stp) (v : Value) (s : Sta) (now order : Int) (h : StpsAre w l v) (hg : g.length ≤ 9223372036854775807) (hs : specOk g l = true) (ht : staOk s = true) (hT : 0 ≤ now) (hT2 : now ≤ 1099511627776) (ho : 0 ≤ order) (ho2 : order ≤ 3) (q1 : (g == s.a) = false) (q1n : (g != s.a) = true) (q2 : (g == s.c) = true) (q2n : (g != s.c) = false) (q3 : (s.ph == 1) = false) (q3n : (s.ph != 1) = true) (q4 : (s.ph == 4) = false) (q4n : (s.ph != 4) = true) (q5 : (order == 2) = false) (q5n : (order != 2) = true) (q6 : (order == 3) = true) (q6n : (order != 3) = false) :
    Calls Try.prog 9 #[.agg #[.string ⟨g.toArray⟩, v], staV s, .int .i64 now, .int .i64 order] w fun e w' => e = .returned (.tuple #[staV (abortedS s.a s.c), .int .i64 0]) ∧ Below w.heap.size w w' := by
  have E0 : Hid (staV s = .agg #[.string ⟨s.a.toArray⟩, .string ⟨s.c.toArray⟩, .int .i64 s.ph, .int .i64 s.st, .int .i64 s.we, .int .i64 s.si]) := hidI rfl
  have E1 := E0.out
  rw [E1]
  clear E0 E1
  obtain ⟨a, c, rfl⟩ := h.form
  have H := hidI h
  have G := hidI hg
  have ll := h.1
  have N0 := hidI (next_start w g (.slice a l.length c) s)
  clear h hg
  go_enter Try.func9, Try.ntmps9
  go_wp2_with (first | (go_at_call 19; refine (rspec_at _ g l _ (H.out.bel N0.out.2.2.2) G.out).mono ?_; rintro e w1 ⟨rfl, hb⟩; rw [hs]; have N1 := hidI (N0.out.bel hb); obtain ⟨p0, p1, c0, c1, c2, c3, c4, c5, f0, f1, f2, f3, f4, f5, g0, g1, g2, g3, g4, g5, h0, h1, h2, h3, h4, h5⟩ := N1.out.c; clear hb) | (go_at_call 20; refine (rstatus_at _ s).mono ?_; rintro e w2 ⟨rfl, hb⟩; rw [ht]; have N2 := hidI (N1.out.bel hb); clear p0 p1 c0 c1 c2 c3 c4 c5 f0 f1 f2 f3 f4 f5 g0 g1 g2 g3 g4 g5 h0 h1 h2 h3 h4 h5; obtain ⟨p0, p1, c0, c1, c2, c3, c4, c5, f0, f1, f2, f3, f4, f5, g0, g1, g2, g3, g4, g5, h0, h1, h2, h3, h4, h5⟩ := N2.out.c; clear hb))
  obtain ⟨z0, z1, z2, z3, z4, z5, -⟩ := (N2.out.2.2.1.set (abortedS s.a s.c)).c
  refine bodyPost_ret (v := .tuple #[staV (abortedS s.a s.c), .int .i64 0]) ?_ rfl ⟨rfl, bel_set6 N2.out.2.2.2 (by omega) (abortedS s.a s.c)⟩
  simp only [set6, abortedS] at z0 z1 z2 z3 z4 z5
  simp [results, Try.results9, go_sem, z0, z1, z2, z3, z4, z5, staV, abortedS]
set_option maxRecDepth 100000 in
set_option maxHeartbeats 4000000 in
theorem rnext_last (w : World) (g : List UInt8) (l : List Stp) (v : Value) (s : Sta) (now order : Int) (h : StpsAre w l v) (hg : g.length ≤ 9223372036854775807) (hs : specOk g l = true) (ht : staOk s = true) (hT : 0 ≤ now) (hT2 : now ≤ 1099511627776) (ho : 0 ≤ order) (ho2 : order ≤ 3) (q1 : (g == s.a) = false) (q1n : (g != s.a) = true) (q2 : (g == s.c) = true) (q2n : (g != s.c) = false) (q3 : (s.ph == 1) = false) (q3n : (s.ph != 1) = true) (q4 : (s.ph == 4) = false) (q4n : (s.ph != 4) = true) (q5 : (order == 2) = false) (q5n : (order != 2) = true) (q6 : (order == 3) = false) (q6n : (order != 3) = true) (q7 : (l.length : Int) ≤ s.st) :
    Calls Try.prog 9 #[.agg #[.string ⟨g.toArray⟩, v], staV s, .int .i64 now, .int .i64 order] w fun e w' => e = .returned (.tuple #[staV (healthyS s.c), .int .i64 0]) ∧ Below w.heap.size w w' := by
  have E0 : Hid (staV s = .agg #[.string ⟨s.a.toArray⟩, .string ⟨s.c.toArray⟩, .int .i64 s.ph, .int .i64 s.st, .int .i64 s.we, .int .i64 s.si]) := hidI rfl
  have E1 := E0.out
  rw [E1]
  clear E0 E1
  obtain ⟨a, c, rfl⟩ := h.form
  have H := hidI h
  have G := hidI hg
  have ll := h.1
  have N0 := hidI (next_start w g (.slice a l.length c) s)
  clear h hg
  go_enter Try.func9, Try.ntmps9
  go_wp2_with (first | (go_at_call 19; refine (rspec_at _ g l _ (H.out.bel N0.out.2.2.2) G.out).mono ?_; rintro e w1 ⟨rfl, hb⟩; rw [hs]; have N1 := hidI (N0.out.bel hb); obtain ⟨p0, p1, c0, c1, c2, c3, c4, c5, f0, f1, f2, f3, f4, f5, g0, g1, g2, g3, g4, g5, h0, h1, h2, h3, h4, h5⟩ := N1.out.c; clear hb) | (go_at_call 20; refine (rstatus_at _ s).mono ?_; rintro e w2 ⟨rfl, hb⟩; rw [ht]; have N2 := hidI (N1.out.bel hb); clear p0 p1 c0 c1 c2 c3 c4 c5 f0 f1 f2 f3 f4 f5 g0 g1 g2 g3 g4 g5 h0 h1 h2 h3 h4 h5; obtain ⟨p0, p1, c0, c1, c2, c3, c4, c5, f0, f1, f2, f3, f4, f5, g0, g1, g2, g3, g4, g5, h0, h1, h2, h3, h4, h5⟩ := N2.out.c; clear hb) | (go_at_call 21; refine (rhealthy_b _ (s.c)).mono ?_; rintro e w5 ⟨rfl, hb⟩; have N5 := hidI (N2.out.bel hb); clear p0 p1 c0 c1 c2 c3 c4 c5 f0 f1 f2 f3 f4 f5 g0 g1 g2 g3 g4 g5 h0 h1 h2 h3 h4 h5; obtain ⟨p0, p1, c0, c1, c2, c3, c4, c5, f0, f1, f2, f3, f4, f5, g0, g1, g2, g3, g4, g5, h0, h1, h2, h3, h4, h5⟩ := N5.out.c; clear hb))
  obtain ⟨z0, z1, z2, z3, z4, z5, -⟩ := (N5.out.2.2.1.set (healthyS s.c)).c
  refine bodyPost_ret (v := .tuple #[staV (healthyS s.c), .int .i64 0]) ?_ rfl ⟨rfl, bel_set6 N5.out.2.2.2 (by omega) (healthyS s.c)⟩
  simp only [set6, healthyS] at z0 z1 z2 z3 z4 z5
  simp [results, Try.results9, go_sem, z0, z1, z2, z3, z4, z5, staV, healthyS]
set_option maxRecDepth 100000 in
set_option maxHeartbeats 4000000 in
theorem rnext_wait (w : World) (g : List UInt8) (l : List Stp) (v : Value) (s : Sta) (now order : Int) (h : StpsAre w l v) (hg : g.length ≤ 9223372036854775807) (hs : specOk g l = true) (ht : staOk s = true) (hT : 0 ≤ now) (hT2 : now ≤ 1099511627776) (ho : 0 ≤ order) (ho2 : order ≤ 3) (q1 : (g == s.a) = false) (q1n : (g != s.a) = true) (q2 : (g == s.c) = true) (q2n : (g != s.c) = false) (q3 : (s.ph == 1) = false) (q3n : (s.ph != 1) = true) (q4 : (s.ph == 4) = false) (q4n : (s.ph != 4) = true) (q5 : (order == 2) = false) (q5n : (order != 2) = true) (q6 : (order == 3) = false) (q6n : (order != 3) = true) (x : Stp) (hst : 0 ≤ s.st) (q7 : s.st < (l.length : Int)) (hx : l[s.st.toNat]? = some x) (q8 : x.w < 0) (q9 : (s.ph == 2) = true) (q9n : (s.ph != 2) = false) :
    Calls Try.prog 9 #[.agg #[.string ⟨g.toArray⟩, v], staV s, .int .i64 now, .int .i64 order] w fun e w' => e = .returned (.tuple #[staV (waitS s now), .int .i64 0]) ∧ Below w.heap.size w w' := by
  have E0 : Hid (staV s = .agg #[.string ⟨s.a.toArray⟩, .string ⟨s.c.toArray⟩, .int .i64 s.ph, .int .i64 s.st, .int .i64 s.we, .int .i64 s.si]) := hidI rfl
  have E1 := E0.out
  rw [E1]
  clear E0 E1
  obtain ⟨a, c, rfl⟩ := h.form
  have H := hidI h
  have G := hidI hg
  have ll := h.1
  have N0 := hidI (next_start w g (.slice a l.length c) s)
  have hk : s.st.toNat < l.length := by omega
  obtain ⟨b, off, rfl, j1, j2, k1, k2⟩ := stps_at h hk
  obtain ⟨hk', hx'⟩ := List.getElem?_eq_some_iff.1 hx
  rw [hx'] at k1 k2
  have K1 := hidI k1
  have K2 := hidI k2
  clear h hg k1 k2 hk hk' hx hx'
  go_enter Try.func9, Try.ntmps9
  go_wp2_with (first | (go_at_call 19; refine (rspec_at _ g l _ (H.out.bel N0.out.2.2.2) G.out).mono ?_; rintro e w1 ⟨rfl, hb⟩; rw [hs]; have N1 := hidI (N0.out.bel hb); obtain ⟨p0, p1, c0, c1, c2, c3, c4, c5, f0, f1, f2, f3, f4, f5, g0, g1, g2, g3, g4, g5, h0, h1, h2, h3, h4, h5⟩ := N1.out.c; clear hb) | (go_at_call 20; refine (rstatus_at _ s).mono ?_; rintro e w2 ⟨rfl, hb⟩; rw [ht]; have N2 := hidI (N1.out.bel hb); clear p0 p1 c0 c1 c2 c3 c4 c5 f0 f1 f2 f3 f4 f5 g0 g1 g2 g3 g4 g5 h0 h1 h2 h3 h4 h5; obtain ⟨p0, p1, c0, c1, c2, c3, c4, c5, f0, f1, f2, f3, f4, f5, g0, g1, g2, g3, g4, g5, h0, h1, h2, h3, h4, h5⟩ := N2.out.c; clear hb; have m1 := cell_bel N2.out.2.2.2 K1.out; have m2 := cell_bel N2.out.2.2.2 K2.out; have N3 := hidI (N2.out.bel (bel_alloc w2 (.cells #[.int .i64 x.w, .int .i64 x.p] 34))); obtain ⟨p0', p1', c0', c1', c2', c3', c4', c5', f0', f1', f2', f3', f4', f5', g0', g1', g2', g3', g4', g5', h0', h1', h2', h3', h4', h5'⟩ := N3.out.c; have N4 := hidI (N3.out.wait now); obtain ⟨p0'', p1'', c0'', c1'', c2'', c3'', c4'', c5'', f0'', f1'', f2'', f3'', f4'', f5'', g0'', g1'', g2'', g3'', g4'', g5'', h0'', h1'', h2'', h3'', h4'', h5''⟩ := N4.out.c; simp only [waitS] at p0'' p1'' c0'' c1'' c2'' c3'' c4'' c5'' f0'' f1'' f2'' f3'' f4'' f5'' g0'' g1'' g2'' g3'' g4'' g5'' h0'' h1'' h2'' h3'' h4'' h5''))
  obtain ⟨z0, z1, z2, z3, z4, z5, -⟩ := (N4.out.2.2.1.set (waitS s now)).c
  refine bodyPost_ret (v := .tuple #[staV (waitS s now), .int .i64 0]) ?_ rfl ⟨rfl, bel_set6 N4.out.2.2.2 (by omega) (waitS s now)⟩
  simp only [set6, waitS] at z0 z1 z2 z3 z4 z5
  simp [results, Try.results9, go_sem, z0, z1, z2, z3, z4, z5, staV, waitS]
set_option maxRecDepth 100000 in
set_option maxHeartbeats 4000000 in
theorem rnext_pause0 (w : World) (g : List UInt8) (l : List Stp) (v : Value) (s : Sta) (now order : Int) (h : StpsAre w l v) (hg : g.length ≤ 9223372036854775807) (hs : specOk g l = true) (ht : staOk s = true) (hT : 0 ≤ now) (hT2 : now ≤ 1099511627776) (ho : 0 ≤ order) (ho2 : order ≤ 3) (q1 : (g == s.a) = false) (q1n : (g != s.a) = true) (q2 : (g == s.c) = true) (q2n : (g != s.c) = false) (q3 : (s.ph == 1) = false) (q3n : (s.ph != 1) = true) (q4 : (s.ph == 4) = false) (q4n : (s.ph != 4) = true) (q5 : (order == 2) = false) (q5n : (order != 2) = true) (q6 : (order == 3) = false) (q6n : (order != 3) = true) (x : Stp) (hst : 0 ≤ s.st) (q7 : s.st < (l.length : Int)) (hx : l[s.st.toNat]? = some x) (q8 : x.w < 0) (q9 : (s.ph == 2) = false) (q9n : (s.ph != 2) = true) (q10 : (order == 1) = false) (q10n : (order != 1) = true) (q11 : (x.p == 0) = true) (q11n : (x.p != 0) = false) :
    Calls Try.prog 9 #[.agg #[.string ⟨g.toArray⟩, v], staV s, .int .i64 now, .int .i64 order] w fun e w' => e = .returned (.tuple #[staV (s), .int .i64 0]) ∧ Below w.heap.size w w' := by
  have E0 : Hid (staV s = .agg #[.string ⟨s.a.toArray⟩, .string ⟨s.c.toArray⟩, .int .i64 s.ph, .int .i64 s.st, .int .i64 s.we, .int .i64 s.si]) := hidI rfl
  have E1 := E0.out
  rw [E1]
  clear E0 E1
  obtain ⟨a, c, rfl⟩ := h.form
  have H := hidI h
  have G := hidI hg
  have ll := h.1
  have N0 := hidI (next_start w g (.slice a l.length c) s)
  have hk : s.st.toNat < l.length := by omega
  obtain ⟨b, off, rfl, j1, j2, k1, k2⟩ := stps_at h hk
  obtain ⟨hk', hx'⟩ := List.getElem?_eq_some_iff.1 hx
  rw [hx'] at k1 k2
  have K1 := hidI k1
  have K2 := hidI k2
  clear h hg k1 k2 hk hk' hx hx'
  go_enter Try.func9, Try.ntmps9
  go_wp2_with (first | (go_at_call 19; refine (rspec_at _ g l _ (H.out.bel N0.out.2.2.2) G.out).mono ?_; rintro e w1 ⟨rfl, hb⟩; rw [hs]; have N1 := hidI (N0.out.bel hb); obtain ⟨p0, p1, c0, c1, c2, c3, c4, c5, f0, f1, f2, f3, f4, f5, g0, g1, g2, g3, g4, g5, h0, h1, h2, h3, h4, h5⟩ := N1.out.c; clear hb) | (go_at_call 20; refine (rstatus_at _ s).mono ?_; rintro e w2 ⟨rfl, hb⟩; rw [ht]; have N2 := hidI (N1.out.bel hb); clear p0 p1 c0 c1 c2 c3 c4 c5 f0 f1 f2 f3 f4 f5 g0 g1 g2 g3 g4 g5 h0 h1 h2 h3 h4 h5; obtain ⟨p0, p1, c0, c1, c2, c3, c4, c5, f0, f1, f2, f3, f4, f5, g0, g1, g2, g3, g4, g5, h0, h1, h2, h3, h4, h5⟩ := N2.out.c; clear hb; have m1 := cell_bel N2.out.2.2.2 K1.out; have m2 := cell_bel N2.out.2.2.2 K2.out; have N3 := hidI (N2.out.bel (bel_alloc w2 (.cells #[.int .i64 x.w, .int .i64 x.p] 34))); obtain ⟨p0', p1', c0', c1', c2', c3', c4', c5', f0', f1', f2', f3', f4', f5', g0', g1', g2', g3', g4', g5', h0', h1', h2', h3', h4', h5'⟩ := N3.out.c))
  obtain ⟨z0, z1, z2, z3, z4, z5, -⟩ := (N3.out.2.2.1.set (s)).c
  refine bodyPost_ret (v := .tuple #[staV (s), .int .i64 0]) ?_ rfl ⟨rfl, bel_set6 N3.out.2.2.2 (by omega) (s)⟩
  simp only [set6] at z0 z1 z2 z3 z4 z5
  simp [results, Try.results9, go_sem, z0, z1, z2, z3, z4, z5, staV]
set_option maxRecDepth 100000 in
set_option maxHeartbeats 4000000 in
theorem rnext_pause1 (w : World) (g : List UInt8) (l : List Stp) (v : Value) (s : Sta) (now order : Int) (h : StpsAre w l v) (hg : g.length ≤ 9223372036854775807) (hs : specOk g l = true) (ht : staOk s = true) (hT : 0 ≤ now) (hT2 : now ≤ 1099511627776) (ho : 0 ≤ order) (ho2 : order ≤ 3) (q1 : (g == s.a) = false) (q1n : (g != s.a) = true) (q2 : (g == s.c) = true) (q2n : (g != s.c) = false) (q3 : (s.ph == 1) = false) (q3n : (s.ph != 1) = true) (q4 : (s.ph == 4) = false) (q4n : (s.ph != 4) = true) (q5 : (order == 2) = false) (q5n : (order != 2) = true) (q6 : (order == 3) = false) (q6n : (order != 3) = true) (x : Stp) (hst : 0 ≤ s.st) (q7 : s.st < (l.length : Int)) (hx : l[s.st.toNat]? = some x) (q8 : x.w < 0) (q9 : (s.ph == 2) = false) (q9n : (s.ph != 2) = true) (q10 : (order == 1) = false) (q10n : (order != 1) = true) (q11 : (x.p == 0) = false) (q11n : (x.p != 0) = true) (r1 : 0 ≤ s.si) (r2 : s.si ≤ 1099511627776) (q12 : now - s.si < x.p) :
    Calls Try.prog 9 #[.agg #[.string ⟨g.toArray⟩, v], staV s, .int .i64 now, .int .i64 order] w fun e w' => e = .returned (.tuple #[staV (s), .int .i64 0]) ∧ Below w.heap.size w w' := by
  have E0 : Hid (staV s = .agg #[.string ⟨s.a.toArray⟩, .string ⟨s.c.toArray⟩, .int .i64 s.ph, .int .i64 s.st, .int .i64 s.we, .int .i64 s.si]) := hidI rfl
  have E1 := E0.out
  rw [E1]
  clear E0 E1
  obtain ⟨a, c, rfl⟩ := h.form
  have H := hidI h
  have G := hidI hg
  have ll := h.1
  have N0 := hidI (next_start w g (.slice a l.length c) s)
  have hk : s.st.toNat < l.length := by omega
  obtain ⟨b, off, rfl, j1, j2, k1, k2⟩ := stps_at h hk
  obtain ⟨hk', hx'⟩ := List.getElem?_eq_some_iff.1 hx
  rw [hx'] at k1 k2
  have K1 := hidI k1
  have K2 := hidI k2
  clear h hg k1 k2 hk hk' hx hx'
  go_enter Try.func9, Try.ntmps9
  go_wp2_with (first | (go_at_call 19; refine (rspec_at _ g l _ (H.out.bel N0.out.2.2.2) G.out).mono ?_; rintro e w1 ⟨rfl, hb⟩; rw [hs]; have N1 := hidI (N0.out.bel hb); obtain ⟨p0, p1, c0, c1, c2, c3, c4, c5, f0, f1, f2, f3, f4, f5, g0, g1, g2, g3, g4, g5, h0, h1, h2, h3, h4, h5⟩ := N1.out.c; clear hb) | (go_at_call 20; refine (rstatus_at _ s).mono ?_; rintro e w2 ⟨rfl, hb⟩; rw [ht]; have N2 := hidI (N1.out.bel hb); clear p0 p1 c0 c1 c2 c3 c4 c5 f0 f1 f2 f3 f4 f5 g0 g1 g2 g3 g4 g5 h0 h1 h2 h3 h4 h5; obtain ⟨p0, p1, c0, c1, c2, c3, c4, c5, f0, f1, f2, f3, f4, f5, g0, g1, g2, g3, g4, g5, h0, h1, h2, h3, h4, h5⟩ := N2.out.c; clear hb; have m1 := cell_bel N2.out.2.2.2 K1.out; have m2 := cell_bel N2.out.2.2.2 K2.out; have N3 := hidI (N2.out.bel (bel_alloc w2 (.cells #[.int .i64 x.w, .int .i64 x.p] 34))); obtain ⟨p0', p1', c0', c1', c2', c3', c4', c5', f0', f1', f2', f3', f4', f5', g0', g1', g2', g3', g4', g5', h0', h1', h2', h3', h4', h5'⟩ := N3.out.c))
  obtain ⟨z0, z1, z2, z3, z4, z5, -⟩ := (N3.out.2.2.1.set (s)).c
  refine bodyPost_ret (v := .tuple #[staV (s), .int .i64 0]) ?_ rfl ⟨rfl, bel_set6 N3.out.2.2.2 (by omega) (s)⟩
  simp only [set6] at z0 z1 z2 z3 z4 z5
  simp [results, Try.results9, go_sem, z0, z1, z2, z3, z4, z5, staV]
set_option maxRecDepth 100000 in
set_option maxHeartbeats 4000000 in
theorem rnext_over (w : World) (g : List UInt8) (l : List Stp) (v : Value) (s : Sta) (now order : Int) (h : StpsAre w l v) (hg : g.length ≤ 9223372036854775807) (hs : specOk g l = true) (ht : staOk s = true) (hT : 0 ≤ now) (hT2 : now ≤ 1099511627776) (ho : 0 ≤ order) (ho2 : order ≤ 3) (q1 : (g == s.a) = false) (q1n : (g != s.a) = true) (q2 : (g == s.c) = true) (q2n : (g != s.c) = false) (q3 : (s.ph == 1) = false) (q3n : (s.ph != 1) = true) (q4 : (s.ph == 4) = false) (q4n : (s.ph != 4) = true) (q5 : (order == 2) = false) (q5n : (order != 2) = true) (q6 : (order == 3) = false) (q6n : (order != 3) = true) (x : Stp) (hst : 0 ≤ s.st) (q7 : s.st < (l.length : Int)) (hx : l[s.st.toNat]? = some x) (q8 : x.w < 0) (q9 : (s.ph == 2) = false) (q9n : (s.ph != 2) = true) (q10 : (order == 1) = false) (q10n : (order != 1) = true) (q11 : (x.p == 0) = false) (q11n : (x.p != 0) = true) (r1 : 0 ≤ s.si) (r2 : s.si ≤ 1099511627776) (q12 : ¬ now - s.si < x.p) (q13 : ¬ now < s.si) (r : Sta) (REC : ∀ W : World, Below w.heap.size w W → Calls Try.prog 9 #[.agg #[.string ⟨g.toArray⟩, v], .agg #[.string ⟨(onS s).a.toArray⟩, .string ⟨(onS s).c.toArray⟩, .int .i64 (onS s).ph, .int .i64 (onS s).st, .int .i64 (onS s).we, .int .i64 (onS s).si], .int .i64 now, .int .i64 0] W fun e w' => e = .returned (.tuple #[.agg #[.string ⟨r.a.toArray⟩, .string ⟨r.c.toArray⟩, .int .i64 r.ph, .int .i64 r.st, .int .i64 r.we, .int .i64 r.si], .int .i64 0]) ∧ Below W.heap.size W w') :
    Calls Try.prog 9 #[.agg #[.string ⟨g.toArray⟩, v], staV s, .int .i64 now, .int .i64 order] w fun e w' => e = .returned (.tuple #[staV (r), .int .i64 0]) ∧ Below w.heap.size w w' := by
  have E0 : Hid (staV s = .agg #[.string ⟨s.a.toArray⟩, .string ⟨s.c.toArray⟩, .int .i64 s.ph, .int .i64 s.st, .int .i64 s.we, .int .i64 s.si]) := hidI rfl
  have E1 := E0.out
  rw [E1]
  clear E0 E1
  obtain ⟨a, c, rfl⟩ := h.form
  have H := hidI h
  have G := hidI hg
  have ll := h.1
  have N0 := hidI (next_start w g (.slice a l.length c) s)
  have hk : s.st.toNat < l.length := by omega
  obtain ⟨b, off, rfl, j1, j2, k1, k2⟩ := stps_at h hk
  obtain ⟨hk', hx'⟩ := List.getElem?_eq_some_iff.1 hx
  rw [hx'] at k1 k2
  have K1 := hidI k1
  have K2 := hidI k2
  clear h hg k1 k2 hk hk' hx hx'
  have RC := hidI REC
  clear REC
  simp only [onS, toS] at RC
  have e9 : s.st + 1 ≤ 9223372036854775807 := by omega
  go_enter Try.func9, Try.ntmps9
  go_wp2_with (first | (go_at_call 19; refine (rspec_at _ g l _ (H.out.bel N0.out.2.2.2) G.out).mono ?_; rintro e w1 ⟨rfl, hb⟩; rw [hs]; have N1 := hidI (N0.out.bel hb); obtain ⟨p0, p1, c0, c1, c2, c3, c4, c5, f0, f1, f2, f3, f4, f5, g0, g1, g2, g3, g4, g5, h0, h1, h2, h3, h4, h5⟩ := N1.out.c; clear hb) | (go_at_call 20; refine (rstatus_at _ s).mono ?_; rintro e w2 ⟨rfl, hb⟩; rw [ht]; have N2 := hidI (N1.out.bel hb); clear p0 p1 c0 c1 c2 c3 c4 c5 f0 f1 f2 f3 f4 f5 g0 g1 g2 g3 g4 g5 h0 h1 h2 h3 h4 h5; obtain ⟨p0, p1, c0, c1, c2, c3, c4, c5, f0, f1, f2, f3, f4, f5, g0, g1, g2, g3, g4, g5, h0, h1, h2, h3, h4, h5⟩ := N2.out.c; clear hb; have m1 := cell_bel N2.out.2.2.2 K1.out; have m2 := cell_bel N2.out.2.2.2 K2.out; have N3 := hidI (N2.out.bel (bel_alloc w2 (.cells #[.int .i64 x.w, .int .i64 x.p] 34))); obtain ⟨p0', p1', c0', c1', c2', c3', c4', c5', f0', f1', f2', f3', f4', f5', g0', g1', g2', g3', g4', g5', h0', h1', h2', h3', h4', h5'⟩ := N3.out.c; have N4 := hidI (N3.out.on); obtain ⟨p0'', p1'', c0'', c1'', c2'', c3'', c4'', c5'', f0'', f1'', f2'', f3'', f4'', f5'', g0'', g1'', g2'', g3'', g4'', g5'', h0'', h1'', h2'', h3'', h4'', h5''⟩ := N4.out.c; simp only [onS, toS] at p0'' p1'' c0'' c1'' c2'' c3'' c4'' c5'' f0'' f1'' f2'' f3'' f4'' f5'' g0'' g1'' g2'' g3'' g4'' g5'' h0'' h1'' h2'' h3'' h4'' h5'') | (go_at_call 9; refine (RC.out _ (by exact N4.out.2.2.2)).mono ?_; rintro e w5 ⟨rfl, hb⟩; have N5 := hidI (N4.out.bel hb); clear p0 p1 c0 c1 c2 c3 c4 c5 f0 f1 f2 f3 f4 f5 g0 g1 g2 g3 g4 g5 h0 h1 h2 h3 h4 h5 p0' p1' c0' c1' c2' c3' c4' c5' f0' f1' f2' f3' f4' f5' g0' g1' g2' g3' g4' g5' h0' h1' h2' h3' h4' h5' p0'' p1'' c0'' c1'' c2'' c3'' c4'' c5'' f0'' f1'' f2'' f3'' f4'' f5'' g0'' g1'' g2'' g3'' g4'' g5'' h0'' h1'' h2'' h3'' h4'' h5''; obtain ⟨p0, p1, c0, c1, c2, c3, c4, c5, f0, f1, f2, f3, f4, f5, g0, g1, g2, g3, g4, g5, h0, h1, h2, h3, h4, h5⟩ := N5.out.c; clear hb))
  obtain ⟨z0, z1, z2, z3, z4, z5, -⟩ := (N5.out.2.2.1.set (r)).c
  refine bodyPost_ret (v := .tuple #[staV (r), .int .i64 0]) ?_ rfl ⟨rfl, bel_set6 N5.out.2.2.2 (by omega) (r)⟩
  simp only [set6] at z0 z1 z2 z3 z4 z5
  simp [results, Try.results9, go_sem, z0, z1, z2, z3, z4, z5, staV]
set_option maxRecDepth 100000 in
set_option maxHeartbeats 4000000 in
theorem rnext_resume (w : World) (g : List UInt8) (l : List Stp) (v : Value) (s : Sta) (now order : Int) (h : StpsAre w l v) (hg : g.length ≤ 9223372036854775807) (hs : specOk g l = true) (ht : staOk s = true) (hT : 0 ≤ now) (hT2 : now ≤ 1099511627776) (ho : 0 ≤ order) (ho2 : order ≤ 3) (q1 : (g == s.a) = false) (q1n : (g != s.a) = true) (q2 : (g == s.c) = true) (q2n : (g != s.c) = false) (q3 : (s.ph == 1) = false) (q3n : (s.ph != 1) = true) (q4 : (s.ph == 4) = false) (q4n : (s.ph != 4) = true) (q5 : (order == 2) = false) (q5n : (order != 2) = true) (q6 : (order == 3) = false) (q6n : (order != 3) = true) (x : Stp) (hst : 0 ≤ s.st) (q7 : s.st < (l.length : Int)) (hx : l[s.st.toNat]? = some x) (q8 : x.w < 0) (q9 : (s.ph == 2) = false) (q9n : (s.ph != 2) = true) (q10 : (order == 1) = true) (q10n : (order != 1) = false) (r : Sta) (REC : ∀ W : World, Below w.heap.size w W → Calls Try.prog 9 #[.agg #[.string ⟨g.toArray⟩, v], .agg #[.string ⟨(onS s).a.toArray⟩, .string ⟨(onS s).c.toArray⟩, .int .i64 (onS s).ph, .int .i64 (onS s).st, .int .i64 (onS s).we, .int .i64 (onS s).si], .int .i64 now, .int .i64 0] W fun e w' => e = .returned (.tuple #[.agg #[.string ⟨r.a.toArray⟩, .string ⟨r.c.toArray⟩, .int .i64 r.ph, .int .i64 r.st, .int .i64 r.we, .int .i64 r.si], .int .i64 0]) ∧ Below W.heap.size W w') :
    Calls Try.prog 9 #[.agg #[.string ⟨g.toArray⟩, v], staV s, .int .i64 now, .int .i64 order] w fun e w' => e = .returned (.tuple #[staV (r), .int .i64 0]) ∧ Below w.heap.size w w' := by
  have E0 : Hid (staV s = .agg #[.string ⟨s.a.toArray⟩, .string ⟨s.c.toArray⟩, .int .i64 s.ph, .int .i64 s.st, .int .i64 s.we, .int .i64 s.si]) := hidI rfl
  have E1 := E0.out
  rw [E1]
  clear E0 E1
  obtain ⟨a, c, rfl⟩ := h.form
  have H := hidI h
  have G := hidI hg
  have ll := h.1
  have N0 := hidI (next_start w g (.slice a l.length c) s)
  have hk : s.st.toNat < l.length := by omega
  obtain ⟨b, off, rfl, j1, j2, k1, k2⟩ := stps_at h hk
  obtain ⟨hk', hx'⟩ := List.getElem?_eq_some_iff.1 hx
  rw [hx'] at k1 k2
  have K1 := hidI k1
  have K2 := hidI k2
  clear h hg k1 k2 hk hk' hx hx'
  have RC := hidI REC
  clear REC
  simp only [onS, toS] at RC
  have e9 : s.st + 1 ≤ 9223372036854775807 := by omega
  go_enter Try.func9, Try.ntmps9
  go_wp2_with (first | (go_at_call 19; refine (rspec_at _ g l _ (H.out.bel N0.out.2.2.2) G.out).mono ?_; rintro e w1 ⟨rfl, hb⟩; rw [hs]; have N1 := hidI (N0.out.bel hb); obtain ⟨p0, p1, c0, c1, c2, c3, c4, c5, f0, f1, f2, f3, f4, f5, g0, g1, g2, g3, g4, g5, h0, h1, h2, h3, h4, h5⟩ := N1.out.c; clear hb) | (go_at_call 20; refine (rstatus_at _ s).mono ?_; rintro e w2 ⟨rfl, hb⟩; rw [ht]; have N2 := hidI (N1.out.bel hb); clear p0 p1 c0 c1 c2 c3 c4 c5 f0 f1 f2 f3 f4 f5 g0 g1 g2 g3 g4 g5 h0 h1 h2 h3 h4 h5; obtain ⟨p0, p1, c0, c1, c2, c3, c4, c5, f0, f1, f2, f3, f4, f5, g0, g1, g2, g3, g4, g5, h0, h1, h2, h3, h4, h5⟩ := N2.out.c; clear hb; have m1 := cell_bel N2.out.2.2.2 K1.out; have m2 := cell_bel N2.out.2.2.2 K2.out; have N3 := hidI (N2.out.bel (bel_alloc w2 (.cells #[.int .i64 x.w, .int .i64 x.p] 34))); obtain ⟨p0', p1', c0', c1', c2', c3', c4', c5', f0', f1', f2', f3', f4', f5', g0', g1', g2', g3', g4', g5', h0', h1', h2', h3', h4', h5'⟩ := N3.out.c; have N4 := hidI (N3.out.on); obtain ⟨p0'', p1'', c0'', c1'', c2'', c3'', c4'', c5'', f0'', f1'', f2'', f3'', f4'', f5'', g0'', g1'', g2'', g3'', g4'', g5'', h0'', h1'', h2'', h3'', h4'', h5''⟩ := N4.out.c; simp only [onS, toS] at p0'' p1'' c0'' c1'' c2'' c3'' c4'' c5'' f0'' f1'' f2'' f3'' f4'' f5'' g0'' g1'' g2'' g3'' g4'' g5'' h0'' h1'' h2'' h3'' h4'' h5'') | (go_at_call 9; refine (RC.out _ (by exact N4.out.2.2.2)).mono ?_; rintro e w5 ⟨rfl, hb⟩; have N5 := hidI (N4.out.bel hb); clear p0 p1 c0 c1 c2 c3 c4 c5 f0 f1 f2 f3 f4 f5 g0 g1 g2 g3 g4 g5 h0 h1 h2 h3 h4 h5 p0' p1' c0' c1' c2' c3' c4' c5' f0' f1' f2' f3' f4' f5' g0' g1' g2' g3' g4' g5' h0' h1' h2' h3' h4' h5' p0'' p1'' c0'' c1'' c2'' c3'' c4'' c5'' f0'' f1'' f2'' f3'' f4'' f5'' g0'' g1'' g2'' g3'' g4'' g5'' h0'' h1'' h2'' h3'' h4'' h5''; obtain ⟨p0, p1, c0, c1, c2, c3, c4, c5, f0, f1, f2, f3, f4, f5, g0, g1, g2, g3, g4, g5, h0, h1, h2, h3, h4, h5⟩ := N5.out.c; clear hb))
  obtain ⟨z0, z1, z2, z3, z4, z5, -⟩ := (N5.out.2.2.1.set (r)).c
  refine bodyPost_ret (v := .tuple #[staV (r), .int .i64 0]) ?_ rfl ⟨rfl, bel_set6 N5.out.2.2.2 (by omega) (r)⟩
  simp only [set6] at z0 z1 z2 z3 z4 z5
  simp [results, Try.results9, go_sem, z0, z1, z2, z3, z4, z5, staV]
end Go.Proofs.Ytiaaphflbkcojaa
