/- What Next of package stage does. -/
import Derived.Test.YtaaaogiheplbmaaHe
set_option linter.unusedSimpArgs false
set_option linter.unusedVariables false
namespace Go.Proofs.Ytaaaogiheplbmaa
open Go.RowKit

/- The three blocks of Next: the spec, the status, the answer. -/
def NextI (w wr : World) (g : List UInt8) (v : Value) (s : Sta) : Prop := PBox wr w.heap.size g v ∧ SBox wr (w.heap.size + 1) s ∧ SBox wr (w.heap.size + 2) zeroS ∧ Below w.heap.size w wr
theorem NextI.bel {w wr w' : World} {g : List UInt8} {v : Value} {s : Sta} (h : NextI w wr g v s) (hb : Below wr.heap.size wr w') : NextI w w' g v s := ⟨h.1.bel hb, h.2.1.bel hb, h.2.2.1.bel hb, bel_trans h.2.2.2 hb⟩
theorem NextI.c {w wr : World} {g : List UInt8} {v : Value} {s : Sta} (h : NextI w wr g v s) :
    wr.cell? ⟨w.heap.size, 0, none⟩ = some (.string ⟨g.toArray⟩) ∧ wr.cell? ⟨w.heap.size, 1, none⟩ = some v ∧
    wr.cell? ⟨w.heap.size + 1, 0, none⟩ = some (.string ⟨s.a.toArray⟩) ∧ wr.cell? ⟨w.heap.size + 1, 1, none⟩ = some (.string ⟨s.c.toArray⟩) ∧ wr.cell? ⟨w.heap.size + 1, 2, none⟩ = some (.int .i64 s.ph) ∧ wr.cell? ⟨w.heap.size + 1, 3, none⟩ = some (.int .i64 s.st) ∧ wr.cell? ⟨w.heap.size + 1, 4, none⟩ = some (.int .i64 s.we) ∧ wr.cell? ⟨w.heap.size + 1, 5, none⟩ = some (.int .i64 s.si) ∧
    wr.cell? ⟨w.heap.size + 2, 0, none⟩ = some (.string ⟨#[]⟩) ∧ wr.cell? ⟨w.heap.size + 2, 1, none⟩ = some (.string ⟨#[]⟩) ∧ wr.cell? ⟨w.heap.size + 2, 2, none⟩ = some (.int .i64 0) ∧ wr.cell? ⟨w.heap.size + 2, 3, none⟩ = some (.int .i64 0) ∧ wr.cell? ⟨w.heap.size + 2, 4, none⟩ = some (.int .i64 0) ∧ wr.cell? ⟨w.heap.size + 2, 5, none⟩ = some (.int .i64 0) ∧
    wr.frozen? ⟨w.heap.size + 2, 0, none⟩ = false ∧ wr.frozen? ⟨w.heap.size + 2, 1, none⟩ = false ∧ wr.frozen? ⟨w.heap.size + 2, 2, none⟩ = false ∧ wr.frozen? ⟨w.heap.size + 2, 3, none⟩ = false ∧ wr.frozen? ⟨w.heap.size + 2, 4, none⟩ = false ∧ wr.frozen? ⟨w.heap.size + 2, 5, none⟩ = false ∧
    wr.frozen? ⟨w.heap.size + 1, 0, none⟩ = false ∧ wr.frozen? ⟨w.heap.size + 1, 1, none⟩ = false ∧ wr.frozen? ⟨w.heap.size + 1, 2, none⟩ = false ∧ wr.frozen? ⟨w.heap.size + 1, 3, none⟩ = false ∧ wr.frozen? ⟨w.heap.size + 1, 4, none⟩ = false ∧ wr.frozen? ⟨w.heap.size + 1, 5, none⟩ = false := by
  obtain ⟨a0, a1⟩ := h.1.c
  obtain ⟨b0, b1, b2, b3, b4, b5, b6, b7, b8, b9, b10, b11⟩ := h.2.1.c
  obtain ⟨d0, d1, d2, d3, d4, d5, d6, d7, d8, d9, d10, d11⟩ := h.2.2.1.c
  exact ⟨a0, a1, b0, b1, b2, b3, b4, b5, d0, d1, d2, d3, d4, d5, d6, d7, d8, d9, d10, d11, b6, b7, b8, b9, b10, b11⟩
theorem NextI.begun {w wr : World} {g : List UInt8} {v : Value} {s : Sta} (h : NextI w wr g v s) (t : Sta) : NextI w (set6 wr (w.heap.size + 1) t) g v t :=
  ⟨((((((Below.heap_setCell _ ⟨w.heap.size + 1, 5, none⟩ _ w.heap.size (by simp)).trans (Below.heap_setCell _ ⟨w.heap.size + 1, 4, none⟩ _ w.heap.size (by simp))).trans (Below.heap_setCell _ ⟨w.heap.size + 1, 3, none⟩ _ w.heap.size (by simp))).trans (Below.heap_setCell _ ⟨w.heap.size + 1, 2, none⟩ _ w.heap.size (by simp))).trans (Below.heap_setCell _ ⟨w.heap.size + 1, 1, none⟩ _ w.heap.size (by simp))).trans (Below.heap_setCell _ ⟨w.heap.size + 1, 0, none⟩ _ w.heap.size (by simp))).trans h.1,
   h.2.1.set t, (((((h.2.2.1.far (by omega)).far (by omega)).far (by omega)).far (by omega)).far (by omega)).far (by omega), bel_set6 h.2.2.2 (by omega) t⟩
theorem next_start (w : World) (g : List UInt8) (v : Value) (s : Sta) : NextI w (((w.alloc (.cells #[.string ⟨g.toArray⟩, v] 28)).alloc (.cells #[.string ⟨s.a.toArray⟩, .string ⟨s.c.toArray⟩, .int .i64 s.ph, .int .i64 s.st, .int .i64 s.we, .int .i64 s.si] 30)).alloc (.cells #[.string ⟨#[]⟩, .string ⟨#[]⟩, .int .i64 0, .int .i64 0, .int .i64 0, .int .i64 0] 30)) g v s := by
  have e : SBox (((w.alloc (.cells #[.string ⟨g.toArray⟩, v] 28)).alloc (.cells #[.string ⟨s.a.toArray⟩, .string ⟨s.c.toArray⟩, .int .i64 s.ph, .int .i64 s.st, .int .i64 s.we, .int .i64 s.si] 30)).alloc (.cells #[.string ⟨#[]⟩, .string ⟨#[]⟩, .int .i64 0, .int .i64 0, .int .i64 0, .int .i64 0] 30)) (w.heap.size + 1 + 1) zeroS := by
    have e := heap_alloc_new ((w.alloc (.cells #[.string ⟨g.toArray⟩, v] 28)).alloc (.cells #[.string ⟨s.a.toArray⟩, .string ⟨s.c.toArray⟩, .int .i64 s.ph, .int .i64 s.st, .int .i64 s.we, .int .i64 s.si] 30)) (.cells #[.string ⟨#[]⟩, .string ⟨#[]⟩, .int .i64 0, .int .i64 0, .int .i64 0, .int .i64 0] 30)
    have e2 : ((w.alloc (.cells #[.string ⟨g.toArray⟩, v] 28)).alloc (.cells #[.string ⟨s.a.toArray⟩, .string ⟨s.c.toArray⟩, .int .i64 s.ph, .int .i64 s.st, .int .i64 s.we, .int .i64 s.si] 30)).heap.size = w.heap.size + 1 + 1 := by simp
    rw [e2] at e
    exact e
  exact ⟨(show PBox _ _ g v from h2a w _ _).bel (bel_alloc _ _), (show SBox _ _ s from h2b w _ _).bel (bel_alloc _ _), e, bel_trans (bel_trans (bel_alloc _ _) (bel_alloc _ _)) (bel_alloc _ _)⟩

set_option maxRecDepth 100000 in
set_option maxHeartbeats 4000000 in
theorem next_bad1 (w : World) (g : List UInt8) (l : List Stp) (v : Value) (s : Sta) (now order : Int) (h : StpsAre w l v) (hg : g.length ≤ 9223372036854775807) (hs : specOk g l = false) :
    Calls Try.prog 30 #[.agg #[.string ⟨g.toArray⟩, v], staV s, .int .i64 now, .int .i64 order] w fun e w' => e = .returned (.tuple #[staV (s), .int .i64 1]) ∧ Below w.heap.size w w' := by
  have E0 : Hid (staV s = .agg #[.string ⟨s.a.toArray⟩, .string ⟨s.c.toArray⟩, .int .i64 s.ph, .int .i64 s.st, .int .i64 s.we, .int .i64 s.si]) := hidI rfl
  have E1 := E0.out
  rw [E1]
  clear E0 E1
  obtain ⟨a, c, rfl⟩ := h.form
  have H := hidI h
  have G := hidI hg
  have N0 := hidI (next_start w g (.slice a l.length c) s)
  clear h hg
  go_enter Try.func30, Try.ntmps30
  go_wp2_with (go_at_call 12; refine (goodSpec_at _ g l _ (H.out.bel N0.out.2.2.2) G.out).mono ?_; rintro e w1 ⟨rfl, hb⟩; rw [hs]; have N1 := hidI (N0.out.bel hb); obtain ⟨p0, p1, c0, c1, c2, c3, c4, c5, f0, f1, f2, f3, f4, f5, g0, g1, g2, g3, g4, g5, h0, h1, h2, h3, h4, h5⟩ := N1.out.c; clear hb)
  obtain ⟨z0, z1, z2, z3, z4, z5, -⟩ := (N1.out.2.2.1.set (s)).c
  refine bodyPost_ret (v := .tuple #[staV (s), .int .i64 1]) ?_ rfl ⟨rfl, bel_set6 N1.out.2.2.2 (by omega) (s)⟩
  simp only [set6] at z0 z1 z2 z3 z4 z5
  simp [results, Try.results30, go_sem, z0, z1, z2, z3, z4, z5, staV]
set_option maxRecDepth 100000 in
set_option maxHeartbeats 4000000 in
theorem next_bad2 (w : World) (g : List UInt8) (l : List Stp) (v : Value) (s : Sta) (now order : Int) (h : StpsAre w l v) (hg : g.length ≤ 9223372036854775807) (hs : specOk g l = true) (ht : staOk s = false) :
    Calls Try.prog 30 #[.agg #[.string ⟨g.toArray⟩, v], staV s, .int .i64 now, .int .i64 order] w fun e w' => e = .returned (.tuple #[staV (s), .int .i64 1]) ∧ Below w.heap.size w w' := by
  have E0 : Hid (staV s = .agg #[.string ⟨s.a.toArray⟩, .string ⟨s.c.toArray⟩, .int .i64 s.ph, .int .i64 s.st, .int .i64 s.we, .int .i64 s.si]) := hidI rfl
  have E1 := E0.out
  rw [E1]
  clear E0 E1
  obtain ⟨a, c, rfl⟩ := h.form
  have H := hidI h
  have G := hidI hg
  have N0 := hidI (next_start w g (.slice a l.length c) s)
  clear h hg
  go_enter Try.func30, Try.ntmps30
  go_wp2_with (first | (go_at_call 12; refine (goodSpec_at _ g l _ (H.out.bel N0.out.2.2.2) G.out).mono ?_; rintro e w1 ⟨rfl, hb⟩; rw [hs]; have N1 := hidI (N0.out.bel hb); obtain ⟨p0, p1, c0, c1, c2, c3, c4, c5, f0, f1, f2, f3, f4, f5, g0, g1, g2, g3, g4, g5, h0, h1, h2, h3, h4, h5⟩ := N1.out.c; clear hb) | (go_at_call 14; refine (good_at _ s).mono ?_; rintro e w2 ⟨rfl, hb⟩; rw [ht]; have N2 := hidI (N1.out.bel hb); clear p0 p1 c0 c1 c2 c3 c4 c5 f0 f1 f2 f3 f4 f5 g0 g1 g2 g3 g4 g5 h0 h1 h2 h3 h4 h5; obtain ⟨p0, p1, c0, c1, c2, c3, c4, c5, f0, f1, f2, f3, f4, f5, g0, g1, g2, g3, g4, g5, h0, h1, h2, h3, h4, h5⟩ := N2.out.c; clear hb))
  obtain ⟨z0, z1, z2, z3, z4, z5, -⟩ := (N2.out.2.2.1.set (s)).c
  refine bodyPost_ret (v := .tuple #[staV (s), .int .i64 1]) ?_ rfl ⟨rfl, bel_set6 N2.out.2.2.2 (by omega) (s)⟩
  simp only [set6] at z0 z1 z2 z3 z4 z5
  simp [results, Try.results30, go_sem, z0, z1, z2, z3, z4, z5, staV]
set_option maxRecDepth 100000 in
set_option maxHeartbeats 4000000 in
theorem next_bad3 (w : World) (g : List UInt8) (l : List Stp) (v : Value) (s : Sta) (now order : Int) (h : StpsAre w l v) (hg : g.length ≤ 9223372036854775807) (hs : specOk g l = true) (ht : staOk s = true) (hT : isT now = false) :
    Calls Try.prog 30 #[.agg #[.string ⟨g.toArray⟩, v], staV s, .int .i64 now, .int .i64 order] w fun e w' => e = .returned (.tuple #[staV (s), .int .i64 8]) ∧ Below w.heap.size w w' := by
  have E0 : Hid (staV s = .agg #[.string ⟨s.a.toArray⟩, .string ⟨s.c.toArray⟩, .int .i64 s.ph, .int .i64 s.st, .int .i64 s.we, .int .i64 s.si]) := hidI rfl
  have E1 := E0.out
  rw [E1]
  clear E0 E1
  obtain ⟨a, c, rfl⟩ := h.form
  have H := hidI h
  have G := hidI hg
  have N0 := hidI (next_start w g (.slice a l.length c) s)
  clear h hg
  go_enter Try.func30, Try.ntmps30
  go_wp2_with (first | (go_at_call 12; refine (goodSpec_at _ g l _ (H.out.bel N0.out.2.2.2) G.out).mono ?_; rintro e w1 ⟨rfl, hb⟩; rw [hs]; have N1 := hidI (N0.out.bel hb); obtain ⟨p0, p1, c0, c1, c2, c3, c4, c5, f0, f1, f2, f3, f4, f5, g0, g1, g2, g3, g4, g5, h0, h1, h2, h3, h4, h5⟩ := N1.out.c; clear hb) | (go_at_call 14; refine (good_at _ s).mono ?_; rintro e w2 ⟨rfl, hb⟩; rw [ht]; have N2 := hidI (N1.out.bel hb); clear p0 p1 c0 c1 c2 c3 c4 c5 f0 f1 f2 f3 f4 f5 g0 g1 g2 g3 g4 g5 h0 h1 h2 h3 h4 h5; obtain ⟨p0, p1, c0, c1, c2, c3, c4, c5, f0, f1, f2, f3, f4, f5, g0, g1, g2, g3, g4, g5, h0, h1, h2, h3, h4, h5⟩ := N2.out.c; clear hb) | (go_at_call 24; refine (isTime_at _ now).mono ?_; rintro e w3 ⟨rfl, rfl⟩; rw [hT]))
  obtain ⟨z0, z1, z2, z3, z4, z5, -⟩ := (N2.out.2.2.1.set (s)).c
  refine bodyPost_ret (v := .tuple #[staV (s), .int .i64 8]) ?_ rfl ⟨rfl, bel_set6 N2.out.2.2.2 (by omega) (s)⟩
  simp only [set6] at z0 z1 z2 z3 z4 z5
  simp [results, Try.results30, go_sem, z0, z1, z2, z3, z4, z5, staV]
set_option maxRecDepth 100000 in
set_option maxHeartbeats 4000000 in
theorem next_bad4 (w : World) (g : List UInt8) (l : List Stp) (v : Value) (s : Sta) (now order : Int) (h : StpsAre w l v) (hg : g.length ≤ 9223372036854775807) (hs : specOk g l = true) (ht : staOk s = true) (hT : isT now = true) (ho : order < 0) :
    Calls Try.prog 30 #[.agg #[.string ⟨g.toArray⟩, v], staV s, .int .i64 now, .int .i64 order] w fun e w' => e = .returned (.tuple #[staV (s), .int .i64 9]) ∧ Below w.heap.size w w' := by
  have E0 : Hid (staV s = .agg #[.string ⟨s.a.toArray⟩, .string ⟨s.c.toArray⟩, .int .i64 s.ph, .int .i64 s.st, .int .i64 s.we, .int .i64 s.si]) := hidI rfl
  have E1 := E0.out
  rw [E1]
  clear E0 E1
  obtain ⟨a, c, rfl⟩ := h.form
  have H := hidI h
  have G := hidI hg
  have N0 := hidI (next_start w g (.slice a l.length c) s)
  clear h hg
  go_enter Try.func30, Try.ntmps30
  go_wp2_with (first | (go_at_call 12; refine (goodSpec_at _ g l _ (H.out.bel N0.out.2.2.2) G.out).mono ?_; rintro e w1 ⟨rfl, hb⟩; rw [hs]; have N1 := hidI (N0.out.bel hb); obtain ⟨p0, p1, c0, c1, c2, c3, c4, c5, f0, f1, f2, f3, f4, f5, g0, g1, g2, g3, g4, g5, h0, h1, h2, h3, h4, h5⟩ := N1.out.c; clear hb) | (go_at_call 14; refine (good_at _ s).mono ?_; rintro e w2 ⟨rfl, hb⟩; rw [ht]; have N2 := hidI (N1.out.bel hb); clear p0 p1 c0 c1 c2 c3 c4 c5 f0 f1 f2 f3 f4 f5 g0 g1 g2 g3 g4 g5 h0 h1 h2 h3 h4 h5; obtain ⟨p0, p1, c0, c1, c2, c3, c4, c5, f0, f1, f2, f3, f4, f5, g0, g1, g2, g3, g4, g5, h0, h1, h2, h3, h4, h5⟩ := N2.out.c; clear hb) | (go_at_call 24; refine (isTime_at _ now).mono ?_; rintro e w3 ⟨rfl, rfl⟩; rw [hT]))
  obtain ⟨z0, z1, z2, z3, z4, z5, -⟩ := (N2.out.2.2.1.set (s)).c
  refine bodyPost_ret (v := .tuple #[staV (s), .int .i64 9]) ?_ rfl ⟨rfl, bel_set6 N2.out.2.2.2 (by omega) (s)⟩
  simp only [set6] at z0 z1 z2 z3 z4 z5
  simp [results, Try.results30, go_sem, z0, z1, z2, z3, z4, z5, staV]
set_option maxRecDepth 100000 in
set_option maxHeartbeats 4000000 in
theorem next_bad5 (w : World) (g : List UInt8) (l : List Stp) (v : Value) (s : Sta) (now order : Int) (h : StpsAre w l v) (hg : g.length ≤ 9223372036854775807) (hs : specOk g l = true) (ht : staOk s = true) (hT : isT now = true) (ho : 0 ≤ order) (ho2 : 3 < order) :
    Calls Try.prog 30 #[.agg #[.string ⟨g.toArray⟩, v], staV s, .int .i64 now, .int .i64 order] w fun e w' => e = .returned (.tuple #[staV (s), .int .i64 9]) ∧ Below w.heap.size w w' := by
  have E0 : Hid (staV s = .agg #[.string ⟨s.a.toArray⟩, .string ⟨s.c.toArray⟩, .int .i64 s.ph, .int .i64 s.st, .int .i64 s.we, .int .i64 s.si]) := hidI rfl
  have E1 := E0.out
  rw [E1]
  clear E0 E1
  obtain ⟨a, c, rfl⟩ := h.form
  have H := hidI h
  have G := hidI hg
  have N0 := hidI (next_start w g (.slice a l.length c) s)
  clear h hg
  go_enter Try.func30, Try.ntmps30
  go_wp2_with (first | (go_at_call 12; refine (goodSpec_at _ g l _ (H.out.bel N0.out.2.2.2) G.out).mono ?_; rintro e w1 ⟨rfl, hb⟩; rw [hs]; have N1 := hidI (N0.out.bel hb); obtain ⟨p0, p1, c0, c1, c2, c3, c4, c5, f0, f1, f2, f3, f4, f5, g0, g1, g2, g3, g4, g5, h0, h1, h2, h3, h4, h5⟩ := N1.out.c; clear hb) | (go_at_call 14; refine (good_at _ s).mono ?_; rintro e w2 ⟨rfl, hb⟩; rw [ht]; have N2 := hidI (N1.out.bel hb); clear p0 p1 c0 c1 c2 c3 c4 c5 f0 f1 f2 f3 f4 f5 g0 g1 g2 g3 g4 g5 h0 h1 h2 h3 h4 h5; obtain ⟨p0, p1, c0, c1, c2, c3, c4, c5, f0, f1, f2, f3, f4, f5, g0, g1, g2, g3, g4, g5, h0, h1, h2, h3, h4, h5⟩ := N2.out.c; clear hb) | (go_at_call 24; refine (isTime_at _ now).mono ?_; rintro e w3 ⟨rfl, rfl⟩; rw [hT]))
  obtain ⟨z0, z1, z2, z3, z4, z5, -⟩ := (N2.out.2.2.1.set (s)).c
  refine bodyPost_ret (v := .tuple #[staV (s), .int .i64 9]) ?_ rfl ⟨rfl, bel_set6 N2.out.2.2.2 (by omega) (s)⟩
  simp only [set6] at z0 z1 z2 z3 z4 z5
  simp [results, Try.results30, go_sem, z0, z1, z2, z3, z4, z5, staV]
set_option maxRecDepth 100000 in
set_option maxHeartbeats 4000000 in
theorem next_back (w : World) (g : List UInt8) (l : List Stp) (v : Value) (s : Sta) (now order : Int) (h : StpsAre w l v) (hg : g.length ≤ 9223372036854775807) (hs : specOk g l = true) (ht : staOk s = true) (hT : isT now = true) (ho : 0 ≤ order) (ho2 : order ≤ 3) (h1 : (g == s.c) = false) (h2 : (g == s.a) = true) :
    Calls Try.prog 30 #[.agg #[.string ⟨g.toArray⟩, v], staV s, .int .i64 now, .int .i64 order] w fun e w' => e = .returned (.tuple #[staV (healthyS s.a), .int .i64 0]) ∧ Below w.heap.size w w' := by
  have E0 : Hid (staV s = .agg #[.string ⟨s.a.toArray⟩, .string ⟨s.c.toArray⟩, .int .i64 s.ph, .int .i64 s.st, .int .i64 s.we, .int .i64 s.si]) := hidI rfl
  have E1 := E0.out
  rw [E1]
  clear E0 E1
  obtain ⟨a, c, rfl⟩ := h.form
  have H := hidI h
  have G := hidI hg
  have N0 := hidI (next_start w g (.slice a l.length c) s)
  clear h hg
  go_enter Try.func30, Try.ntmps30
  go_wp2_with (first | (go_at_call 12; refine (goodSpec_at _ g l _ (H.out.bel N0.out.2.2.2) G.out).mono ?_; rintro e w1 ⟨rfl, hb⟩; rw [hs]; have N1 := hidI (N0.out.bel hb); obtain ⟨p0, p1, c0, c1, c2, c3, c4, c5, f0, f1, f2, f3, f4, f5, g0, g1, g2, g3, g4, g5, h0, h1, h2, h3, h4, h5⟩ := N1.out.c; clear hb) | (go_at_call 14; refine (good_at _ s).mono ?_; rintro e w2 ⟨rfl, hb⟩; rw [ht]; have N2 := hidI (N1.out.bel hb); clear p0 p1 c0 c1 c2 c3 c4 c5 f0 f1 f2 f3 f4 f5 g0 g1 g2 g3 g4 g5 h0 h1 h2 h3 h4 h5; obtain ⟨p0, p1, c0, c1, c2, c3, c4, c5, f0, f1, f2, f3, f4, f5, g0, g1, g2, g3, g4, g5, h0, h1, h2, h3, h4, h5⟩ := N2.out.c; clear hb) | (go_at_call 24; refine (isTime_at _ now).mono ?_; rintro e w3 ⟨rfl, rfl⟩; rw [hT]) | (go_at_call 22; refine (healthy_b _ (s.a)).mono ?_; rintro e w5 ⟨rfl, hb⟩; have N5 := hidI (N2.out.bel hb); clear p0 p1 c0 c1 c2 c3 c4 c5 f0 f1 f2 f3 f4 f5 g0 g1 g2 g3 g4 g5 h0 h1 h2 h3 h4 h5; obtain ⟨p0, p1, c0, c1, c2, c3, c4, c5, f0, f1, f2, f3, f4, f5, g0, g1, g2, g3, g4, g5, h0, h1, h2, h3, h4, h5⟩ := N5.out.c; clear hb))
  obtain ⟨z0, z1, z2, z3, z4, z5, -⟩ := (N5.out.2.2.1.set (healthyS s.a)).c
  refine bodyPost_ret (v := .tuple #[staV (healthyS s.a), .int .i64 0]) ?_ rfl ⟨rfl, bel_set6 N5.out.2.2.2 (by omega) (healthyS s.a)⟩
  simp only [set6, healthyS] at z0 z1 z2 z3 z4 z5
  simp [results, Try.results30, go_sem, z0, z1, z2, z3, z4, z5, staV, healthyS]
set_option maxRecDepth 100000 in
set_option maxHeartbeats 4000000 in
theorem next_still1 (w : World) (g : List UInt8) (l : List Stp) (v : Value) (s : Sta) (now order : Int) (h : StpsAre w l v) (hg : g.length ≤ 9223372036854775807) (hs : specOk g l = true) (ht : staOk s = true) (hT : isT now = true) (ho : 0 ≤ order) (ho2 : order ≤ 3) (h1 : (g == s.c) = true) (h2 : (s.ph == 1) = true) :
    Calls Try.prog 30 #[.agg #[.string ⟨g.toArray⟩, v], staV s, .int .i64 now, .int .i64 order] w fun e w' => e = .returned (.tuple #[staV (s), .int .i64 0]) ∧ Below w.heap.size w w' := by
  have E0 : Hid (staV s = .agg #[.string ⟨s.a.toArray⟩, .string ⟨s.c.toArray⟩, .int .i64 s.ph, .int .i64 s.st, .int .i64 s.we, .int .i64 s.si]) := hidI rfl
  have E1 := E0.out
  rw [E1]
  clear E0 E1
  obtain ⟨a, c, rfl⟩ := h.form
  have H := hidI h
  have G := hidI hg
  have N0 := hidI (next_start w g (.slice a l.length c) s)
  clear h hg
  go_enter Try.func30, Try.ntmps30
  go_wp2_with (first | (go_at_call 12; refine (goodSpec_at _ g l _ (H.out.bel N0.out.2.2.2) G.out).mono ?_; rintro e w1 ⟨rfl, hb⟩; rw [hs]; have N1 := hidI (N0.out.bel hb); obtain ⟨p0, p1, c0, c1, c2, c3, c4, c5, f0, f1, f2, f3, f4, f5, g0, g1, g2, g3, g4, g5, h0, h1, h2, h3, h4, h5⟩ := N1.out.c; clear hb) | (go_at_call 14; refine (good_at _ s).mono ?_; rintro e w2 ⟨rfl, hb⟩; rw [ht]; have N2 := hidI (N1.out.bel hb); clear p0 p1 c0 c1 c2 c3 c4 c5 f0 f1 f2 f3 f4 f5 g0 g1 g2 g3 g4 g5 h0 h1 h2 h3 h4 h5; obtain ⟨p0, p1, c0, c1, c2, c3, c4, c5, f0, f1, f2, f3, f4, f5, g0, g1, g2, g3, g4, g5, h0, h1, h2, h3, h4, h5⟩ := N2.out.c; clear hb) | (go_at_call 24; refine (isTime_at _ now).mono ?_; rintro e w3 ⟨rfl, rfl⟩; rw [hT]))
  obtain ⟨z0, z1, z2, z3, z4, z5, -⟩ := (N2.out.2.2.1.set (s)).c
  refine bodyPost_ret (v := .tuple #[staV (s), .int .i64 0]) ?_ rfl ⟨rfl, bel_set6 N2.out.2.2.2 (by omega) (s)⟩
  simp only [set6] at z0 z1 z2 z3 z4 z5
  simp [results, Try.results30, go_sem, z0, z1, z2, z3, z4, z5, staV]
set_option maxRecDepth 100000 in
set_option maxHeartbeats 4000000 in
theorem next_still4 (w : World) (g : List UInt8) (l : List Stp) (v : Value) (s : Sta) (now order : Int) (h : StpsAre w l v) (hg : g.length ≤ 9223372036854775807) (hs : specOk g l = true) (ht : staOk s = true) (hT : isT now = true) (ho : 0 ≤ order) (ho2 : order ≤ 3) (h1 : (g == s.c) = true) (h2 : (s.ph == 1) = false) (h3 : (s.ph == 4) = true) :
    Calls Try.prog 30 #[.agg #[.string ⟨g.toArray⟩, v], staV s, .int .i64 now, .int .i64 order] w fun e w' => e = .returned (.tuple #[staV (s), .int .i64 0]) ∧ Below w.heap.size w w' := by
  have E0 : Hid (staV s = .agg #[.string ⟨s.a.toArray⟩, .string ⟨s.c.toArray⟩, .int .i64 s.ph, .int .i64 s.st, .int .i64 s.we, .int .i64 s.si]) := hidI rfl
  have E1 := E0.out
  rw [E1]
  clear E0 E1
  obtain ⟨a, c, rfl⟩ := h.form
  have H := hidI h
  have G := hidI hg
  have N0 := hidI (next_start w g (.slice a l.length c) s)
  clear h hg
  go_enter Try.func30, Try.ntmps30
  go_wp2_with (first | (go_at_call 12; refine (goodSpec_at _ g l _ (H.out.bel N0.out.2.2.2) G.out).mono ?_; rintro e w1 ⟨rfl, hb⟩; rw [hs]; have N1 := hidI (N0.out.bel hb); obtain ⟨p0, p1, c0, c1, c2, c3, c4, c5, f0, f1, f2, f3, f4, f5, g0, g1, g2, g3, g4, g5, h0, h1, h2, h3, h4, h5⟩ := N1.out.c; clear hb) | (go_at_call 14; refine (good_at _ s).mono ?_; rintro e w2 ⟨rfl, hb⟩; rw [ht]; have N2 := hidI (N1.out.bel hb); clear p0 p1 c0 c1 c2 c3 c4 c5 f0 f1 f2 f3 f4 f5 g0 g1 g2 g3 g4 g5 h0 h1 h2 h3 h4 h5; obtain ⟨p0, p1, c0, c1, c2, c3, c4, c5, f0, f1, f2, f3, f4, f5, g0, g1, g2, g3, g4, g5, h0, h1, h2, h3, h4, h5⟩ := N2.out.c; clear hb) | (go_at_call 24; refine (isTime_at _ now).mono ?_; rintro e w3 ⟨rfl, rfl⟩; rw [hT]))
  obtain ⟨z0, z1, z2, z3, z4, z5, -⟩ := (N2.out.2.2.1.set (s)).c
  refine bodyPost_ret (v := .tuple #[staV (s), .int .i64 0]) ?_ rfl ⟨rfl, bel_set6 N2.out.2.2.2 (by omega) (s)⟩
  simp only [set6] at z0 z1 z2 z3 z4 z5
  simp [results, Try.results30, go_sem, z0, z1, z2, z3, z4, z5, staV]
set_option maxRecDepth 100000 in
set_option maxHeartbeats 4000000 in
theorem next_prom (w : World) (g : List UInt8) (l : List Stp) (v : Value) (s : Sta) (now order : Int) (h : StpsAre w l v) (hg : g.length ≤ 9223372036854775807) (hs : specOk g l = true) (ht : staOk s = true) (hT : isT now = true) (ho : 0 ≤ order) (ho2 : order ≤ 3) (h1 : (g == s.c) = true) (h2 : (s.ph == 1) = false) (h3 : (s.ph == 4) = false) (h4 : (order == 2) = true) :
    Calls Try.prog 30 #[.agg #[.string ⟨g.toArray⟩, v], staV s, .int .i64 now, .int .i64 order] w fun e w' => e = .returned (.tuple #[staV (healthyS s.c), .int .i64 0]) ∧ Below w.heap.size w w' := by
  have E0 : Hid (staV s = .agg #[.string ⟨s.a.toArray⟩, .string ⟨s.c.toArray⟩, .int .i64 s.ph, .int .i64 s.st, .int .i64 s.we, .int .i64 s.si]) := hidI rfl
  have E1 := E0.out
  rw [E1]
  clear E0 E1
  obtain ⟨a, c, rfl⟩ := h.form
  have H := hidI h
  have G := hidI hg
  have N0 := hidI (next_start w g (.slice a l.length c) s)
  clear h hg
  go_enter Try.func30, Try.ntmps30
  go_wp2_with (first | (go_at_call 12; refine (goodSpec_at _ g l _ (H.out.bel N0.out.2.2.2) G.out).mono ?_; rintro e w1 ⟨rfl, hb⟩; rw [hs]; have N1 := hidI (N0.out.bel hb); obtain ⟨p0, p1, c0, c1, c2, c3, c4, c5, f0, f1, f2, f3, f4, f5, g0, g1, g2, g3, g4, g5, h0, h1, h2, h3, h4, h5⟩ := N1.out.c; clear hb) | (go_at_call 14; refine (good_at _ s).mono ?_; rintro e w2 ⟨rfl, hb⟩; rw [ht]; have N2 := hidI (N1.out.bel hb); clear p0 p1 c0 c1 c2 c3 c4 c5 f0 f1 f2 f3 f4 f5 g0 g1 g2 g3 g4 g5 h0 h1 h2 h3 h4 h5; obtain ⟨p0, p1, c0, c1, c2, c3, c4, c5, f0, f1, f2, f3, f4, f5, g0, g1, g2, g3, g4, g5, h0, h1, h2, h3, h4, h5⟩ := N2.out.c; clear hb) | (go_at_call 24; refine (isTime_at _ now).mono ?_; rintro e w3 ⟨rfl, rfl⟩; rw [hT]) | (go_at_call 22; refine (healthy_b _ (s.c)).mono ?_; rintro e w5 ⟨rfl, hb⟩; have N5 := hidI (N2.out.bel hb); clear p0 p1 c0 c1 c2 c3 c4 c5 f0 f1 f2 f3 f4 f5 g0 g1 g2 g3 g4 g5 h0 h1 h2 h3 h4 h5; obtain ⟨p0, p1, c0, c1, c2, c3, c4, c5, f0, f1, f2, f3, f4, f5, g0, g1, g2, g3, g4, g5, h0, h1, h2, h3, h4, h5⟩ := N5.out.c; clear hb))
  obtain ⟨z0, z1, z2, z3, z4, z5, -⟩ := (N5.out.2.2.1.set (healthyS s.c)).c
  refine bodyPost_ret (v := .tuple #[staV (healthyS s.c), .int .i64 0]) ?_ rfl ⟨rfl, bel_set6 N5.out.2.2.2 (by omega) (healthyS s.c)⟩
  simp only [set6, healthyS] at z0 z1 z2 z3 z4 z5
  simp [results, Try.results30, go_sem, z0, z1, z2, z3, z4, z5, staV, healthyS]
set_option maxRecDepth 100000 in
set_option maxHeartbeats 4000000 in
theorem next_abort (w : World) (g : List UInt8) (l : List Stp) (v : Value) (s : Sta) (now order : Int) (h : StpsAre w l v) (hg : g.length ≤ 9223372036854775807) (hs : specOk g l = true) (ht : staOk s = true) (hT : isT now = true) (ho : 0 ≤ order) (ho2 : order ≤ 3) (h1 : (g == s.c) = true) (h2 : (s.ph == 1) = false) (h3 : (s.ph == 4) = false) (h4 : (order == 2) = false) (h5 : (order == 3) = true) :
    Calls Try.prog 30 #[.agg #[.string ⟨g.toArray⟩, v], staV s, .int .i64 now, .int .i64 order] w fun e w' => e = .returned (.tuple #[staV (abortedS s.a s.c), .int .i64 0]) ∧ Below w.heap.size w w' := by
  have E0 : Hid (staV s = .agg #[.string ⟨s.a.toArray⟩, .string ⟨s.c.toArray⟩, .int .i64 s.ph, .int .i64 s.st, .int .i64 s.we, .int .i64 s.si]) := hidI rfl
  have E1 := E0.out
  rw [E1]
  clear E0 E1
  obtain ⟨a, c, rfl⟩ := h.form
  have H := hidI h
  have G := hidI hg
  have N0 := hidI (next_start w g (.slice a l.length c) s)
  clear h hg
  go_enter Try.func30, Try.ntmps30
  go_wp2_with (first | (go_at_call 12; refine (goodSpec_at _ g l _ (H.out.bel N0.out.2.2.2) G.out).mono ?_; rintro e w1 ⟨rfl, hb⟩; rw [hs]; have N1 := hidI (N0.out.bel hb); obtain ⟨p0, p1, c0, c1, c2, c3, c4, c5, f0, f1, f2, f3, f4, f5, g0, g1, g2, g3, g4, g5, h0, h1, h2, h3, h4, h5⟩ := N1.out.c; clear hb) | (go_at_call 14; refine (good_at _ s).mono ?_; rintro e w2 ⟨rfl, hb⟩; rw [ht]; have N2 := hidI (N1.out.bel hb); clear p0 p1 c0 c1 c2 c3 c4 c5 f0 f1 f2 f3 f4 f5 g0 g1 g2 g3 g4 g5 h0 h1 h2 h3 h4 h5; obtain ⟨p0, p1, c0, c1, c2, c3, c4, c5, f0, f1, f2, f3, f4, f5, g0, g1, g2, g3, g4, g5, h0, h1, h2, h3, h4, h5⟩ := N2.out.c; clear hb) | (go_at_call 24; refine (isTime_at _ now).mono ?_; rintro e w3 ⟨rfl, rfl⟩; rw [hT]) | (go_at_call 28; refine (aborted_b _ (s.a) (s.c)).mono ?_; rintro e w5 ⟨rfl, hb⟩; have N5 := hidI (N2.out.bel hb); clear p0 p1 c0 c1 c2 c3 c4 c5 f0 f1 f2 f3 f4 f5 g0 g1 g2 g3 g4 g5 h0 h1 h2 h3 h4 h5; obtain ⟨p0, p1, c0, c1, c2, c3, c4, c5, f0, f1, f2, f3, f4, f5, g0, g1, g2, g3, g4, g5, h0, h1, h2, h3, h4, h5⟩ := N5.out.c; clear hb))
  obtain ⟨z0, z1, z2, z3, z4, z5, -⟩ := (N5.out.2.2.1.set (abortedS s.a s.c)).c
  refine bodyPost_ret (v := .tuple #[staV (abortedS s.a s.c), .int .i64 0]) ?_ rfl ⟨rfl, bel_set6 N5.out.2.2.2 (by omega) (abortedS s.a s.c)⟩
  simp only [set6, abortedS] at z0 z1 z2 z3 z4 z5
  simp [results, Try.results30, go_sem, z0, z1, z2, z3, z4, z5, staV, abortedS]
set_option maxRecDepth 100000 in
set_option maxHeartbeats 4000000 in
theorem next_roll (w : World) (g : List UInt8) (l : List Stp) (v : Value) (s : Sta) (now order : Int) (h : StpsAre w l v) (hg : g.length ≤ 9223372036854775807) (hs : specOk g l = true) (ht : staOk s = true) (hT : isT now = true) (ho : 0 ≤ order) (ho2 : order ≤ 3) (h1 : (g == s.c) = true) (h2 : (s.ph == 1) = false) (h3 : (s.ph == 4) = false) (h4 : (order == 2) = false) (h5 : (order == 3) = false) (hw : 0 ≤ s.st ∧ 0 ≤ s.si ∧ s.si ≤ 1099511627776) :
    Calls Try.prog 30 #[.agg #[.string ⟨g.toArray⟩, v], staV s, .int .i64 now, .int .i64 order] w fun e w' => e = .returned (.tuple #[staV (rollF now (decide (order = 1)) (l.drop s.st.toNat) s), .int .i64 0]) ∧ Below w.heap.size w w' := by
  have E0 : Hid (staV s = .agg #[.string ⟨s.a.toArray⟩, .string ⟨s.c.toArray⟩, .int .i64 s.ph, .int .i64 s.st, .int .i64 s.we, .int .i64 s.si]) := hidI rfl
  have E1 := E0.out
  rw [E1]
  clear E0 E1
  obtain ⟨a, c, rfl⟩ := h.form
  have H := hidI h
  have G := hidI hg
  have N0 := hidI (next_start w g (.slice a l.length c) s)
  clear h hg
  have RO : Hid (0 ≤ (s).st ∧ 0 ≤ (s).si ∧ (s).si ≤ 1099511627776 ∧ 0 ≤ now ∧ now ≤ 1099511627776) := hidI (⟨hw.1, hw.2.1, hw.2.2, isT_iff.1 hT⟩)
  obtain ⟨r0, hr0⟩ : ∃ r, rollF now (decide (order = 1)) (l.drop s.st.toNat) s = r := ⟨_, rfl⟩
  rw [hr0]
  have HR := hidI hr0
  clear hr0 hw
  go_enter Try.func30, Try.ntmps30
  go_wp2_with (first | (go_at_call 12; refine (goodSpec_at _ g l _ (H.out.bel N0.out.2.2.2) G.out).mono ?_; rintro e w1 ⟨rfl, hb⟩; rw [hs]; have N1 := hidI (N0.out.bel hb); obtain ⟨p0, p1, c0, c1, c2, c3, c4, c5, f0, f1, f2, f3, f4, f5, g0, g1, g2, g3, g4, g5, h0, h1, h2, h3, h4, h5⟩ := N1.out.c; clear hb) | (go_at_call 14; refine (good_at _ s).mono ?_; rintro e w2 ⟨rfl, hb⟩; rw [ht]; have N2 := hidI (N1.out.bel hb); clear p0 p1 c0 c1 c2 c3 c4 c5 f0 f1 f2 f3 f4 f5 g0 g1 g2 g3 g4 g5 h0 h1 h2 h3 h4 h5; obtain ⟨p0, p1, c0, c1, c2, c3, c4, c5, f0, f1, f2, f3, f4, f5, g0, g1, g2, g3, g4, g5, h0, h1, h2, h3, h4, h5⟩ := N2.out.c; clear hb) | (go_at_call 24; refine (isTime_at _ now).mono ?_; rintro e w3 ⟨rfl, rfl⟩; rw [hT]) | (go_at_call 38; refine (roll_at _ l _ (s) now (decide (order = 1)) (by exact H.out.bel N2.out.2.2.2) RO.out.1 RO.out.2.1 RO.out.2.2.1 RO.out.2.2.2.1 RO.out.2.2.2.2).mono ?_; rintro e w5 ⟨rfl, hb⟩; rw [HR.out]; unfold staV; have N5 := hidI (N2.out.bel hb); clear p0 p1 c0 c1 c2 c3 c4 c5 f0 f1 f2 f3 f4 f5 g0 g1 g2 g3 g4 g5 h0 h1 h2 h3 h4 h5; obtain ⟨p0, p1, c0, c1, c2, c3, c4, c5, f0, f1, f2, f3, f4, f5, g0, g1, g2, g3, g4, g5, h0, h1, h2, h3, h4, h5⟩ := N5.out.c; clear hb))
  obtain ⟨z0, z1, z2, z3, z4, z5, -⟩ := (N5.out.2.2.1.set (r0)).c
  refine bodyPost_ret (v := .tuple #[staV (r0), .int .i64 0]) ?_ rfl ⟨rfl, bel_set6 N5.out.2.2.2 (by omega) (r0)⟩
  simp only [set6] at z0 z1 z2 z3 z4 z5
  simp [results, Try.results30, go_sem, z0, z1, z2, z3, z4, z5, staV]
set_option maxRecDepth 100000 in
set_option maxHeartbeats 4000000 in
theorem begun_prom (w : World) (g : List UInt8) (l : List Stp) (v : Value) (s : Sta) (now order : Int) (h : StpsAre w l v) (hg : g.length ≤ 9223372036854775807) (hs : specOk g l = true) (ht : staOk s = true) (hT : isT now = true) (ho : 0 ≤ order) (ho2 : order ≤ 3) (h1 : (g == s.c) = false) (h2 : (g == s.a) = false) (h4 : (order == 2) = true) :
    Calls Try.prog 30 #[.agg #[.string ⟨g.toArray⟩, v], staV s, .int .i64 now, .int .i64 order] w fun e w' => e = .returned (.tuple #[staV (healthyS g), .int .i64 0]) ∧ Below w.heap.size w w' := by
  have E0 : Hid (staV s = .agg #[.string ⟨s.a.toArray⟩, .string ⟨s.c.toArray⟩, .int .i64 s.ph, .int .i64 s.st, .int .i64 s.we, .int .i64 s.si]) := hidI rfl
  have E1 := E0.out
  rw [E1]
  clear E0 E1
  obtain ⟨a, c, rfl⟩ := h.form
  have H := hidI h
  have G := hidI hg
  have N0 := hidI (next_start w g (.slice a l.length c) s)
  clear h hg
  go_enter Try.func30, Try.ntmps30
  go_wp2_with (first | (go_at_call 12; refine (goodSpec_at _ g l _ (H.out.bel N0.out.2.2.2) G.out).mono ?_; rintro e w1 ⟨rfl, hb⟩; rw [hs]; have N1 := hidI (N0.out.bel hb); obtain ⟨p0, p1, c0, c1, c2, c3, c4, c5, f0, f1, f2, f3, f4, f5, g0, g1, g2, g3, g4, g5, h0, h1, h2, h3, h4, h5⟩ := N1.out.c; clear hb) | (go_at_call 14; refine (good_at _ s).mono ?_; rintro e w2 ⟨rfl, hb⟩; rw [ht]; have N2 := hidI (N1.out.bel hb); clear p0 p1 c0 c1 c2 c3 c4 c5 f0 f1 f2 f3 f4 f5 g0 g1 g2 g3 g4 g5 h0 h1 h2 h3 h4 h5; obtain ⟨p0, p1, c0, c1, c2, c3, c4, c5, f0, f1, f2, f3, f4, f5, g0, g1, g2, g3, g4, g5, h0, h1, h2, h3, h4, h5⟩ := N2.out.c; clear hb) | (go_at_call 24; refine (isTime_at _ now).mono ?_; rintro e w3 ⟨rfl, rfl⟩; rw [hT]) | (go_at_call 37; refine (begun_b _ s.a g).mono ?_; rintro e w4 ⟨rfl, hb⟩; have N4 := hidI (N2.out.bel hb); have NB := hidI (N4.out.begun (begunS s.a g)); clear p0 p1 c0 c1 c2 c3 c4 c5 f0 f1 f2 f3 f4 f5 g0 g1 g2 g3 g4 g5 h0 h1 h2 h3 h4 h5; obtain ⟨p0, p1, c0, c1, c2, c3, c4, c5, f0, f1, f2, f3, f4, f5, g0, g1, g2, g3, g4, g5, h0, h1, h2, h3, h4, h5⟩ := N4.out.c; obtain ⟨p0', p1', c0', c1', c2', c3', c4', c5', f0', f1', f2', f3', f4', f5', g0', g1', g2', g3', g4', g5', h0', h1', h2', h3', h4', h5'⟩ := NB.out.c; simp only [set6, begunS] at p0' p1' c0' c1' c2' c3' c4' c5' f0' f1' f2' f3' f4' f5' g0' g1' g2' g3' g4' g5' h0' h1' h2' h3' h4' h5'; clear hb) | (go_at_call 22; refine (healthy_b _ (g)).mono ?_; rintro e w5 ⟨rfl, hb⟩; have N5 := hidI (NB.out.bel hb); clear p0 p1 c0 c1 c2 c3 c4 c5 f0 f1 f2 f3 f4 f5 g0 g1 g2 g3 g4 g5 h0 h1 h2 h3 h4 h5 p0' p1' c0' c1' c2' c3' c4' c5' f0' f1' f2' f3' f4' f5' g0' g1' g2' g3' g4' g5' h0' h1' h2' h3' h4' h5'; obtain ⟨p0, p1, c0, c1, c2, c3, c4, c5, f0, f1, f2, f3, f4, f5, g0, g1, g2, g3, g4, g5, h0, h1, h2, h3, h4, h5⟩ := N5.out.c; clear hb))
  obtain ⟨z0, z1, z2, z3, z4, z5, -⟩ := (N5.out.2.2.1.set (healthyS g)).c
  refine bodyPost_ret (v := .tuple #[staV (healthyS g), .int .i64 0]) ?_ rfl ⟨rfl, bel_set6 N5.out.2.2.2 (by omega) (healthyS g)⟩
  simp only [set6, healthyS] at z0 z1 z2 z3 z4 z5
  simp [results, Try.results30, go_sem, z0, z1, z2, z3, z4, z5, staV, healthyS]
set_option maxRecDepth 100000 in
set_option maxHeartbeats 4000000 in
theorem begun_abort (w : World) (g : List UInt8) (l : List Stp) (v : Value) (s : Sta) (now order : Int) (h : StpsAre w l v) (hg : g.length ≤ 9223372036854775807) (hs : specOk g l = true) (ht : staOk s = true) (hT : isT now = true) (ho : 0 ≤ order) (ho2 : order ≤ 3) (h1 : (g == s.c) = false) (h2 : (g == s.a) = false) (h4 : (order == 2) = false) (h5 : (order == 3) = true) :
    Calls Try.prog 30 #[.agg #[.string ⟨g.toArray⟩, v], staV s, .int .i64 now, .int .i64 order] w fun e w' => e = .returned (.tuple #[staV (abortedS s.a g), .int .i64 0]) ∧ Below w.heap.size w w' := by
  have E0 : Hid (staV s = .agg #[.string ⟨s.a.toArray⟩, .string ⟨s.c.toArray⟩, .int .i64 s.ph, .int .i64 s.st, .int .i64 s.we, .int .i64 s.si]) := hidI rfl
  have E1 := E0.out
  rw [E1]
  clear E0 E1
  obtain ⟨a, c, rfl⟩ := h.form
  have H := hidI h
  have G := hidI hg
  have N0 := hidI (next_start w g (.slice a l.length c) s)
  clear h hg
  go_enter Try.func30, Try.ntmps30
  go_wp2_with (first | (go_at_call 12; refine (goodSpec_at _ g l _ (H.out.bel N0.out.2.2.2) G.out).mono ?_; rintro e w1 ⟨rfl, hb⟩; rw [hs]; have N1 := hidI (N0.out.bel hb); obtain ⟨p0, p1, c0, c1, c2, c3, c4, c5, f0, f1, f2, f3, f4, f5, g0, g1, g2, g3, g4, g5, h0, h1, h2, h3, h4, h5⟩ := N1.out.c; clear hb) | (go_at_call 14; refine (good_at _ s).mono ?_; rintro e w2 ⟨rfl, hb⟩; rw [ht]; have N2 := hidI (N1.out.bel hb); clear p0 p1 c0 c1 c2 c3 c4 c5 f0 f1 f2 f3 f4 f5 g0 g1 g2 g3 g4 g5 h0 h1 h2 h3 h4 h5; obtain ⟨p0, p1, c0, c1, c2, c3, c4, c5, f0, f1, f2, f3, f4, f5, g0, g1, g2, g3, g4, g5, h0, h1, h2, h3, h4, h5⟩ := N2.out.c; clear hb) | (go_at_call 24; refine (isTime_at _ now).mono ?_; rintro e w3 ⟨rfl, rfl⟩; rw [hT]) | (go_at_call 37; refine (begun_b _ s.a g).mono ?_; rintro e w4 ⟨rfl, hb⟩; have N4 := hidI (N2.out.bel hb); have NB := hidI (N4.out.begun (begunS s.a g)); clear p0 p1 c0 c1 c2 c3 c4 c5 f0 f1 f2 f3 f4 f5 g0 g1 g2 g3 g4 g5 h0 h1 h2 h3 h4 h5; obtain ⟨p0, p1, c0, c1, c2, c3, c4, c5, f0, f1, f2, f3, f4, f5, g0, g1, g2, g3, g4, g5, h0, h1, h2, h3, h4, h5⟩ := N4.out.c; obtain ⟨p0', p1', c0', c1', c2', c3', c4', c5', f0', f1', f2', f3', f4', f5', g0', g1', g2', g3', g4', g5', h0', h1', h2', h3', h4', h5'⟩ := NB.out.c; simp only [set6, begunS] at p0' p1' c0' c1' c2' c3' c4' c5' f0' f1' f2' f3' f4' f5' g0' g1' g2' g3' g4' g5' h0' h1' h2' h3' h4' h5'; clear hb) | (go_at_call 28; refine (aborted_b _ (s.a) (g)).mono ?_; rintro e w5 ⟨rfl, hb⟩; have N5 := hidI (NB.out.bel hb); clear p0 p1 c0 c1 c2 c3 c4 c5 f0 f1 f2 f3 f4 f5 g0 g1 g2 g3 g4 g5 h0 h1 h2 h3 h4 h5 p0' p1' c0' c1' c2' c3' c4' c5' f0' f1' f2' f3' f4' f5' g0' g1' g2' g3' g4' g5' h0' h1' h2' h3' h4' h5'; obtain ⟨p0, p1, c0, c1, c2, c3, c4, c5, f0, f1, f2, f3, f4, f5, g0, g1, g2, g3, g4, g5, h0, h1, h2, h3, h4, h5⟩ := N5.out.c; clear hb))
  obtain ⟨z0, z1, z2, z3, z4, z5, -⟩ := (N5.out.2.2.1.set (abortedS s.a g)).c
  refine bodyPost_ret (v := .tuple #[staV (abortedS s.a g), .int .i64 0]) ?_ rfl ⟨rfl, bel_set6 N5.out.2.2.2 (by omega) (abortedS s.a g)⟩
  simp only [set6, abortedS] at z0 z1 z2 z3 z4 z5
  simp [results, Try.results30, go_sem, z0, z1, z2, z3, z4, z5, staV, abortedS]
set_option maxRecDepth 100000 in
set_option maxHeartbeats 4000000 in
theorem begun_roll (w : World) (g : List UInt8) (l : List Stp) (v : Value) (s : Sta) (now order : Int) (h : StpsAre w l v) (hg : g.length ≤ 9223372036854775807) (hs : specOk g l = true) (ht : staOk s = true) (hT : isT now = true) (ho : 0 ≤ order) (ho2 : order ≤ 3) (h1 : (g == s.c) = false) (h2 : (g == s.a) = false) (h4 : (order == 2) = false) (h5 : (order == 3) = false) :
    Calls Try.prog 30 #[.agg #[.string ⟨g.toArray⟩, v], staV s, .int .i64 now, .int .i64 order] w fun e w' => e = .returned (.tuple #[staV (rollF now (decide (order = 1)) (l.drop (begunS s.a g).st.toNat) (begunS s.a g)), .int .i64 0]) ∧ Below w.heap.size w w' := by
  have E0 : Hid (staV s = .agg #[.string ⟨s.a.toArray⟩, .string ⟨s.c.toArray⟩, .int .i64 s.ph, .int .i64 s.st, .int .i64 s.we, .int .i64 s.si]) := hidI rfl
  have E1 := E0.out
  rw [E1]
  clear E0 E1
  obtain ⟨a, c, rfl⟩ := h.form
  have H := hidI h
  have G := hidI hg
  have N0 := hidI (next_start w g (.slice a l.length c) s)
  clear h hg
  have RO : Hid (0 ≤ (begunS s.a g).st ∧ 0 ≤ (begunS s.a g).si ∧ (begunS s.a g).si ≤ 1099511627776 ∧ 0 ≤ now ∧ now ≤ 1099511627776) := hidI (by have := (isT_iff.1 hT); simp [begunS]; omega)
  obtain ⟨r0, hr0⟩ : ∃ r, rollF now (decide (order = 1)) (l.drop (begunS s.a g).st.toNat) (begunS s.a g) = r := ⟨_, rfl⟩
  rw [hr0]
  have HR := hidI hr0
  clear hr0
  go_enter Try.func30, Try.ntmps30
  go_wp2_with (first | (go_at_call 12; refine (goodSpec_at _ g l _ (H.out.bel N0.out.2.2.2) G.out).mono ?_; rintro e w1 ⟨rfl, hb⟩; rw [hs]; have N1 := hidI (N0.out.bel hb); obtain ⟨p0, p1, c0, c1, c2, c3, c4, c5, f0, f1, f2, f3, f4, f5, g0, g1, g2, g3, g4, g5, h0, h1, h2, h3, h4, h5⟩ := N1.out.c; clear hb) | (go_at_call 14; refine (good_at _ s).mono ?_; rintro e w2 ⟨rfl, hb⟩; rw [ht]; have N2 := hidI (N1.out.bel hb); clear p0 p1 c0 c1 c2 c3 c4 c5 f0 f1 f2 f3 f4 f5 g0 g1 g2 g3 g4 g5 h0 h1 h2 h3 h4 h5; obtain ⟨p0, p1, c0, c1, c2, c3, c4, c5, f0, f1, f2, f3, f4, f5, g0, g1, g2, g3, g4, g5, h0, h1, h2, h3, h4, h5⟩ := N2.out.c; clear hb) | (go_at_call 24; refine (isTime_at _ now).mono ?_; rintro e w3 ⟨rfl, rfl⟩; rw [hT]) | (go_at_call 37; refine (begun_b _ s.a g).mono ?_; rintro e w4 ⟨rfl, hb⟩; have N4 := hidI (N2.out.bel hb); have NB := hidI (N4.out.begun (begunS s.a g)); clear p0 p1 c0 c1 c2 c3 c4 c5 f0 f1 f2 f3 f4 f5 g0 g1 g2 g3 g4 g5 h0 h1 h2 h3 h4 h5; obtain ⟨p0, p1, c0, c1, c2, c3, c4, c5, f0, f1, f2, f3, f4, f5, g0, g1, g2, g3, g4, g5, h0, h1, h2, h3, h4, h5⟩ := N4.out.c; obtain ⟨p0', p1', c0', c1', c2', c3', c4', c5', f0', f1', f2', f3', f4', f5', g0', g1', g2', g3', g4', g5', h0', h1', h2', h3', h4', h5'⟩ := NB.out.c; simp only [set6, begunS] at p0' p1' c0' c1' c2' c3' c4' c5' f0' f1' f2' f3' f4' f5' g0' g1' g2' g3' g4' g5' h0' h1' h2' h3' h4' h5'; clear hb) | (go_at_call 38; refine (roll_at _ l _ (begunS s.a g) now (decide (order = 1)) (by exact H.out.bel NB.out.2.2.2) RO.out.1 RO.out.2.1 RO.out.2.2.1 RO.out.2.2.2.1 RO.out.2.2.2.2).mono ?_; rintro e w5 ⟨rfl, hb⟩; rw [HR.out]; unfold staV; have N5 := hidI (NB.out.bel hb); clear p0 p1 c0 c1 c2 c3 c4 c5 f0 f1 f2 f3 f4 f5 g0 g1 g2 g3 g4 g5 h0 h1 h2 h3 h4 h5 p0' p1' c0' c1' c2' c3' c4' c5' f0' f1' f2' f3' f4' f5' g0' g1' g2' g3' g4' g5' h0' h1' h2' h3' h4' h5'; obtain ⟨p0, p1, c0, c1, c2, c3, c4, c5, f0, f1, f2, f3, f4, f5, g0, g1, g2, g3, g4, g5, h0, h1, h2, h3, h4, h5⟩ := N5.out.c; clear hb))
  obtain ⟨z0, z1, z2, z3, z4, z5, -⟩ := (N5.out.2.2.1.set (r0)).c
  refine bodyPost_ret (v := .tuple #[staV (r0), .int .i64 0]) ?_ rfl ⟨rfl, bel_set6 N5.out.2.2.2 (by omega) (r0)⟩
  simp only [set6] at z0 z1 z2 z3 z4 z5
  simp [results, Try.results30, go_sem, z0, z1, z2, z3, z4, z5, staV]

theorem next_at (w : World) (g : List UInt8) (l : List Stp) (v : Value) (s : Sta) (now order : Int) (h : StpsAre w l v) (hg : g.length ≤ 9223372036854775807) :
    Calls Try.prog 30 #[.agg #[.string ⟨g.toArray⟩, v], staV s, .int .i64 now, .int .i64 order] w fun e w' => e = .returned (.tuple #[staV (nextF g l s now order).1, .int .i64 (nextF g l s now order).2]) ∧ Below w.heap.size w w' := by
  rw [nextF]
  cases hs : specOk g l with
  | false => rw [if_pos (by simp)]; exact next_bad1 w g l v s now order h hg hs
  | true =>
    cases ht : staOk s with
    | false => rw [if_pos (by simp)]; exact next_bad2 w g l v s now order h hg hs ht
    | true =>
      rw [if_neg (by simp)]
      cases hT : isT now with
      | false => rw [if_pos rfl]; exact next_bad3 w g l v s now order h hg hs ht hT
      | true =>
        rw [if_neg (by simp)]
        by_cases o1 : order < 0
        · rw [if_pos (.inl o1)]; exact next_bad4 w g l v s now order h hg hs ht hT o1
        by_cases o2 : 3 < order
        · rw [if_pos (.inr o2)]; exact next_bad5 w g l v s now order h hg hs ht hT (by omega) o2
        rw [if_neg (by omega)]
        have k1 : 0 ≤ order := by omega
        have k2 : order ≤ 3 := by omega
        by_cases hc : g = s.c
        · rw [if_neg (fun h => h.1 hc), comesS, if_pos hc, nextS]
          have e1 : (g == s.c) = true := by simp [hc]
          by_cases p1 : s.ph = 1
          · rw [if_pos (.inl p1)]; exact next_still1 w g l v s now order h hg hs ht hT k1 k2 e1 (by simp [p1])
          by_cases p4 : s.ph = 4
          · rw [if_pos (.inr p4)]; exact next_still4 w g l v s now order h hg hs ht hT k1 k2 e1 (by simp [p1]) (by simp [p4])
          rw [if_neg (by omega)]
          by_cases q2 : order = 2
          · rw [if_pos q2]; exact next_prom w g l v s now order h hg hs ht hT k1 k2 e1 (by simp [p1]) (by simp [p4]) (by simp [q2])
          rw [if_neg q2]
          by_cases q3 : order = 3
          · rw [if_pos q3]; exact next_abort w g l v s now order h hg hs ht hT k1 k2 e1 (by simp [p1]) (by simp [p4]) (by simp [q2]) (by simp [q3])
          rw [if_neg q3]
          refine next_roll w g l v s now order h hg hs ht hT k1 k2 e1 (by simp [p1]) (by simp [p4]) (by simp [q2]) (by simp [q3]) ?_
          rcases ok_cases ht with ⟨k, _⟩ | ⟨k, _⟩ | k
          · rw [k] at p1; exact absurd rfl p1
          · rw [k] at p4; exact absurd rfl p4
          · obtain ⟨-, -, -, k3, -, -, -, k4⟩ := k; omega
        · have e1 : (g == s.c) = false := by simp [hc]
          by_cases ha : g = s.a
          · rw [if_pos ⟨hc, ha⟩]; exact next_back w g l v s now order h hg hs ht hT k1 k2 e1 (by simp [ha])
          · have e2 : (g == s.a) = false := by simp [ha]
            rw [if_neg (fun h => ha h.2), comesS, if_neg hc, nextS, if_neg (by simp [begunS])]
            by_cases q2 : order = 2
            · rw [if_pos q2]; exact begun_prom w g l v s now order h hg hs ht hT k1 k2 e1 e2 (by simp [q2])
            rw [if_neg q2]
            by_cases q3 : order = 3
            · rw [if_pos q3]; exact begun_abort w g l v s now order h hg hs ht hT k1 k2 e1 e2 (by simp [q2]) (by simp [q3])
            rw [if_neg q3]
            exact begun_roll w g l v s now order h hg hs ht hT k1 k2 e1 e2 (by simp [q2]) (by simp [q3])
end Go.Proofs.Ytaaaogiheplbmaa
