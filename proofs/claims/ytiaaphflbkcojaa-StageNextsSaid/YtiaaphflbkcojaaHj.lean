/- The walks of the laws StageOnward and StageStill. -/
import Derived.Test.YtiaaphflbkcojaaHg
import Derived.Test.YtiaaphflbkcojaaHi
set_option linter.unusedSimpArgs false
set_option linter.unusedVariables false
namespace Go.Proofs.Ytiaaphflbkcojaa
open Go.RowKit

/- The blocks of such a law: the spec, the status, and the status that came. -/
def LawI (w wr : World) (g : List UInt8) (v : Value) (t : Sta) : Prop := PBox wr w.heap.size g v ∧ SBox wr (w.heap.size + 1) t ∧ Below w.heap.size w wr
theorem LawI.bel {w wr w' : World} {g : List UInt8} {v : Value} {t : Sta} (h : LawI w wr g v t) (hb : Below wr.heap.size wr w') : LawI w w' g v t := ⟨h.1.bel hb, h.2.1.bel hb, bel_trans h.2.2 hb⟩
theorem law_start (w : World) (g : List UInt8) (v : Value) (t : Sta) : LawI w ((w.alloc (.cells #[.string ⟨g.toArray⟩, v] 24)).alloc (.cells #[.string ⟨t.a.toArray⟩, .string ⟨t.c.toArray⟩, .int .i64 t.ph, .int .i64 t.st, .int .i64 t.we, .int .i64 t.si] 26)) g v t :=
  ⟨h2a w _ _, h2b w _ _, bel_trans (bel_alloc _ _) (bel_alloc _ _)⟩
theorem next_b {W : World} {g : List UInt8} {l : List Stp} {v : Value} (t : Sta) (now order : Int) (h : StpsAre W l v) (hg : g.length ≤ 9223372036854775807) (u : Sta) (n : Int) (e : nextF g l t now order = (u, n)) :
    Calls Try.prog 8 #[.agg #[.string ⟨g.toArray⟩, v], .agg #[.string ⟨t.a.toArray⟩, .string ⟨t.c.toArray⟩, .int .i64 t.ph, .int .i64 t.st, .int .i64 t.we, .int .i64 t.si], .int .i64 now, .int .i64 order] W fun e w' => e = .returned (.tuple #[.agg #[.string ⟨u.a.toArray⟩, .string ⟨u.c.toArray⟩, .int .i64 u.ph, .int .i64 u.st, .int .i64 u.we, .int .i64 u.si], .int .i64 n]) ∧ Below W.heap.size W w' := by
  have k := next_at W g l v t now order h hg
  rw [e] at k
  exact k

attribute [local go_sem ↓] eq_sta
set_option maxRecDepth 100000 in
set_option maxHeartbeats 4000000 in
theorem onward_walk (w : World) (g : List UInt8) (l : List Stp) (v : Value) (t : Sta) (now order : Int) (h : StpsAre w l v) (hg : g.length ≤ 9223372036854775807) :
    Calls Try.prog 5 #[.agg #[.string ⟨g.toArray⟩, v], staV t, .int .i64 now, .int .i64 order] w fun e w' => e = .returned (.bool true) ∧ Below w.heap.size w w' := by
  have E1 : staV t = .agg #[.string ⟨t.a.toArray⟩, .string ⟨t.c.toArray⟩, .int .i64 t.ph, .int .i64 t.st, .int .i64 t.we, .int .i64 t.si] := rfl
  rw [E1]
  clear E1
  obtain ⟨a, c, rfl⟩ := h.form
  have H := hidI h
  have G := hidI hg
  have N0 := hidI (law_start w g (.slice a l.length c) t)
  obtain ⟨r, hr⟩ : ∃ r, nextF g l t now order = r := ⟨_, rfl⟩
  obtain ⟨u, n⟩ := r
  have HR := hidI hr
  clear h hg hr
  by_cases hn : n = 0
  · have e0 : (n == 0) = true := by simp [hn]
    have e0n : (n != 0) = false := by simp [hn]
    by_cases hc : t.c = g
    · have e1 : (t.c == g) = true := by simp [hc]
      have e1n : (t.c != g) = false := by simp [hc]
      have K := onward_good (g := g) (l := l) (t := t) (now := now) (order := order) (by rw [HR.out]; exact hn) hc
      rw [HR.out] at K
      simp only at K
      have HK := hidI K
      clear K hn hc
      by_cases q2 : u.ph = 2
      · have e2 : (u.ph == 2) = true := by simp [q2]
        have e2n : (u.ph != 2) = false := by simp [q2]
        have e3 : t.st ≤ u.st := HK.out.1 (.inl q2)
        clear q2
        go_enter Try.func5, Try.ntmps5
        go_wp2_with (first | (go_at_call 8; refine (next_b t now order (H.out.bel N0.out.2.2) G.out u n HR.out).mono ?_; rintro e w1 ⟨rfl, hb⟩; have N1 := hidI (N0.out.bel (bel_trans hb (bel_alloc w1 (.cells #[.string ⟨u.a.toArray⟩, .string ⟨u.c.toArray⟩, .int .i64 u.ph, .int .i64 u.st, .int .i64 u.we, .int .i64 u.si] 26)))); have U1 := hidI (show SBox _ _ u from heap_alloc_new w1 (.cells #[.string ⟨u.a.toArray⟩, .string ⟨u.c.toArray⟩, .int .i64 u.ph, .int .i64 u.st, .int .i64 u.we, .int .i64 u.si] 26)); obtain ⟨p0, p1⟩ := N1.out.1.c; obtain ⟨c0, c1, c2, c3, c4, c5, -⟩ := N1.out.2.1.c; obtain ⟨d0, d1, d2, d3, d4, d5, -⟩ := U1.out.c; clear hb) | (go_at_call 11; refine (ksteps_at _).mono ?_; rintro e w2 ⟨rfl, hb⟩; have N2 := hidI (N1.out.bel hb); have U2 := hidI (U1.out.bel hb); clear p0 p1 c0 c1 c2 c3 c4 c5 d0 d1 d2 d3 d4 d5; obtain ⟨p0, p1⟩ := N2.out.1.c; obtain ⟨c0, c1, c2, c3, c4, c5, -⟩ := N2.out.2.1.c; obtain ⟨d0, d1, d2, d3, d4, d5, -⟩ := U2.out.c; clear hb))
        go_ret
        exact ⟨rfl, N2.out.2.2⟩
      · have e2 : (u.ph == 2) = false := by simp [q2]
        have e2n : (u.ph != 2) = true := by simp [q2]
        by_cases q3 : u.ph = 3
        · have e3 : (u.ph == 3) = true := by simp [q3]
          have e3n : (u.ph != 3) = false := by simp [q3]
          have e4 : t.st ≤ u.st := HK.out.1 (.inr q3)
          clear q2 q3
          go_enter Try.func5, Try.ntmps5
          go_wp2_with (first | (go_at_call 8; refine (next_b t now order (H.out.bel N0.out.2.2) G.out u n HR.out).mono ?_; rintro e w1 ⟨rfl, hb⟩; have N1 := hidI (N0.out.bel (bel_trans hb (bel_alloc w1 (.cells #[.string ⟨u.a.toArray⟩, .string ⟨u.c.toArray⟩, .int .i64 u.ph, .int .i64 u.st, .int .i64 u.we, .int .i64 u.si] 26)))); have U1 := hidI (show SBox _ _ u from heap_alloc_new w1 (.cells #[.string ⟨u.a.toArray⟩, .string ⟨u.c.toArray⟩, .int .i64 u.ph, .int .i64 u.st, .int .i64 u.we, .int .i64 u.si] 26)); obtain ⟨p0, p1⟩ := N1.out.1.c; obtain ⟨c0, c1, c2, c3, c4, c5, -⟩ := N1.out.2.1.c; obtain ⟨d0, d1, d2, d3, d4, d5, -⟩ := U1.out.c; clear hb) | (go_at_call 11; refine (ksteps_at _).mono ?_; rintro e w2 ⟨rfl, hb⟩; have N2 := hidI (N1.out.bel hb); have U2 := hidI (U1.out.bel hb); clear p0 p1 c0 c1 c2 c3 c4 c5 d0 d1 d2 d3 d4 d5; obtain ⟨p0, p1⟩ := N2.out.1.c; obtain ⟨c0, c1, c2, c3, c4, c5, -⟩ := N2.out.2.1.c; obtain ⟨d0, d1, d2, d3, d4, d5, -⟩ := U2.out.c; clear hb))
          go_ret
          exact ⟨rfl, N2.out.2.2⟩
        · have e3 : (u.ph == 3) = false := by simp [q3]
          have e3n : (u.ph != 3) = true := by simp [q3]
          have K2 := HK.out.2 (fun h => h.elim q2 q3)
          clear q2 q3
          by_cases q4 : t.ph = 4
          · have e4 : (t.ph == 4) = true := by simp [q4]
            have e4n : (t.ph != 4) = false := by simp [q4]
            have e5 : staEq u t = true := staEq_iff.2 (K2.resolve_left (fun h => h q4))
            clear q4 K2
            go_enter Try.func5, Try.ntmps5
            go_wp2_with (first | (go_at_call 8; refine (next_b t now order (H.out.bel N0.out.2.2) G.out u n HR.out).mono ?_; rintro e w1 ⟨rfl, hb⟩; have N1 := hidI (N0.out.bel (bel_trans hb (bel_alloc w1 (.cells #[.string ⟨u.a.toArray⟩, .string ⟨u.c.toArray⟩, .int .i64 u.ph, .int .i64 u.st, .int .i64 u.we, .int .i64 u.si] 26)))); have U1 := hidI (show SBox _ _ u from heap_alloc_new w1 (.cells #[.string ⟨u.a.toArray⟩, .string ⟨u.c.toArray⟩, .int .i64 u.ph, .int .i64 u.st, .int .i64 u.we, .int .i64 u.si] 26)); obtain ⟨p0, p1⟩ := N1.out.1.c; obtain ⟨c0, c1, c2, c3, c4, c5, -⟩ := N1.out.2.1.c; obtain ⟨d0, d1, d2, d3, d4, d5, -⟩ := U1.out.c; clear hb) | (go_at_call 11; refine (ksteps_at _).mono ?_; rintro e w2 ⟨rfl, hb⟩; have N2 := hidI (N1.out.bel hb); have U2 := hidI (U1.out.bel hb); clear p0 p1 c0 c1 c2 c3 c4 c5 d0 d1 d2 d3 d4 d5; obtain ⟨p0, p1⟩ := N2.out.1.c; obtain ⟨c0, c1, c2, c3, c4, c5, -⟩ := N2.out.2.1.c; obtain ⟨d0, d1, d2, d3, d4, d5, -⟩ := U2.out.c; clear hb))
            go_ret
            exact ⟨by first | rfl | exact congrArg (fun b => Ending.returned (.bool b)) e5, N2.out.2.2⟩
          · have e4 : (t.ph == 4) = false := by simp [q4]
            have e4n : (t.ph != 4) = true := by simp [q4]
            clear q4 K2
            go_enter Try.func5, Try.ntmps5
            go_wp2_with (first | (go_at_call 8; refine (next_b t now order (H.out.bel N0.out.2.2) G.out u n HR.out).mono ?_; rintro e w1 ⟨rfl, hb⟩; have N1 := hidI (N0.out.bel (bel_trans hb (bel_alloc w1 (.cells #[.string ⟨u.a.toArray⟩, .string ⟨u.c.toArray⟩, .int .i64 u.ph, .int .i64 u.st, .int .i64 u.we, .int .i64 u.si] 26)))); have U1 := hidI (show SBox _ _ u from heap_alloc_new w1 (.cells #[.string ⟨u.a.toArray⟩, .string ⟨u.c.toArray⟩, .int .i64 u.ph, .int .i64 u.st, .int .i64 u.we, .int .i64 u.si] 26)); obtain ⟨p0, p1⟩ := N1.out.1.c; obtain ⟨c0, c1, c2, c3, c4, c5, -⟩ := N1.out.2.1.c; obtain ⟨d0, d1, d2, d3, d4, d5, -⟩ := U1.out.c; clear hb) | (go_at_call 11; refine (ksteps_at _).mono ?_; rintro e w2 ⟨rfl, hb⟩; have N2 := hidI (N1.out.bel hb); have U2 := hidI (U1.out.bel hb); clear p0 p1 c0 c1 c2 c3 c4 c5 d0 d1 d2 d3 d4 d5; obtain ⟨p0, p1⟩ := N2.out.1.c; obtain ⟨c0, c1, c2, c3, c4, c5, -⟩ := N2.out.2.1.c; obtain ⟨d0, d1, d2, d3, d4, d5, -⟩ := U2.out.c; clear hb))
            go_ret
            exact ⟨rfl, N2.out.2.2⟩
    · have e1 : (t.c == g) = false := by simp [hc]
      have e1n : (t.c != g) = true := by simp [hc]
      clear hn hc
      go_enter Try.func5, Try.ntmps5
      go_wp2_with (first | (go_at_call 8; refine (next_b t now order (H.out.bel N0.out.2.2) G.out u n HR.out).mono ?_; rintro e w1 ⟨rfl, hb⟩; have N1 := hidI (N0.out.bel (bel_trans hb (bel_alloc w1 (.cells #[.string ⟨u.a.toArray⟩, .string ⟨u.c.toArray⟩, .int .i64 u.ph, .int .i64 u.st, .int .i64 u.we, .int .i64 u.si] 26)))); have U1 := hidI (show SBox _ _ u from heap_alloc_new w1 (.cells #[.string ⟨u.a.toArray⟩, .string ⟨u.c.toArray⟩, .int .i64 u.ph, .int .i64 u.st, .int .i64 u.we, .int .i64 u.si] 26)); obtain ⟨p0, p1⟩ := N1.out.1.c; obtain ⟨c0, c1, c2, c3, c4, c5, -⟩ := N1.out.2.1.c; obtain ⟨d0, d1, d2, d3, d4, d5, -⟩ := U1.out.c; clear hb) | (go_at_call 11; refine (ksteps_at _).mono ?_; rintro e w2 ⟨rfl, hb⟩; have N2 := hidI (N1.out.bel hb); have U2 := hidI (U1.out.bel hb); clear p0 p1 c0 c1 c2 c3 c4 c5 d0 d1 d2 d3 d4 d5; obtain ⟨p0, p1⟩ := N2.out.1.c; obtain ⟨c0, c1, c2, c3, c4, c5, -⟩ := N2.out.2.1.c; obtain ⟨d0, d1, d2, d3, d4, d5, -⟩ := U2.out.c; clear hb))
      go_ret
      exact ⟨rfl, N2.out.2.2⟩
  · have e0 : (n == 0) = false := by simp [hn]
    have e0n : (n != 0) = true := by simp [hn]
    clear hn
    go_enter Try.func5, Try.ntmps5
    go_wp2_with (first | (go_at_call 8; refine (next_b t now order (H.out.bel N0.out.2.2) G.out u n HR.out).mono ?_; rintro e w1 ⟨rfl, hb⟩; have N1 := hidI (N0.out.bel (bel_trans hb (bel_alloc w1 (.cells #[.string ⟨u.a.toArray⟩, .string ⟨u.c.toArray⟩, .int .i64 u.ph, .int .i64 u.st, .int .i64 u.we, .int .i64 u.si] 26)))); have U1 := hidI (show SBox _ _ u from heap_alloc_new w1 (.cells #[.string ⟨u.a.toArray⟩, .string ⟨u.c.toArray⟩, .int .i64 u.ph, .int .i64 u.st, .int .i64 u.we, .int .i64 u.si] 26)); obtain ⟨p0, p1⟩ := N1.out.1.c; obtain ⟨c0, c1, c2, c3, c4, c5, -⟩ := N1.out.2.1.c; obtain ⟨d0, d1, d2, d3, d4, d5, -⟩ := U1.out.c; clear hb) | (go_at_call 11; refine (ksteps_at _).mono ?_; rintro e w2 ⟨rfl, hb⟩; have N2 := hidI (N1.out.bel hb); have U2 := hidI (U1.out.bel hb); clear p0 p1 c0 c1 c2 c3 c4 c5 d0 d1 d2 d3 d4 d5; obtain ⟨p0, p1⟩ := N2.out.1.c; obtain ⟨c0, c1, c2, c3, c4, c5, -⟩ := N2.out.2.1.c; obtain ⟨d0, d1, d2, d3, d4, d5, -⟩ := U2.out.c; clear hb))
    go_ret
    exact ⟨rfl, N2.out.2.2⟩

set_option maxRecDepth 100000 in
set_option maxHeartbeats 4000000 in
theorem still_walk (w : World) (g : List UInt8) (l : List Stp) (v : Value) (t : Sta) (now : Int) (h : StpsAre w l v) (hg : g.length ≤ 9223372036854775807) :
    Calls Try.prog 7 #[.agg #[.string ⟨g.toArray⟩, v], staV t, .int .i64 now] w fun e w' => e = .returned (.bool true) ∧ Below w.heap.size w w' := by
  have E1 : staV t = .agg #[.string ⟨t.a.toArray⟩, .string ⟨t.c.toArray⟩, .int .i64 t.ph, .int .i64 t.st, .int .i64 t.we, .int .i64 t.si] := rfl
  rw [E1]
  clear E1
  obtain ⟨a, c, rfl⟩ := h.form
  have H := hidI h
  have G := hidI hg
  have N0 := hidI (law_start w g (.slice a l.length c) t)
  obtain ⟨r, hr⟩ : ∃ r, nextF g l t now 0 = r := ⟨_, rfl⟩
  obtain ⟨u, n⟩ := r
  have HR := hidI hr
  clear h hg hr
  by_cases hn : n = 0
  · have e0 : (n == 0) = true := by simp [hn]
    have e0n : (n != 0) = false := by simp [hn]
    have HS : Hid (nextF g l u now 0 = (u, 0)) := hidI (by
      have k := still_good (g := g) (l := l) (t := t) (now := now) (by rw [HR.out]; exact hn)
      rw [HR.out] at k
      exact k)
    have e1 : staEq u u = true := staEq_iff.2 rfl
    clear hn
    go_enter Try.func7, Try.ntmps7
    go_wp2_with (first | (go_at_call 11; refine (ksteps_at _).mono ?_; rintro e w2 ⟨rfl, hb⟩; have N2 := hidI (N1.out.bel hb); have U2 := hidI (U1.out.bel hb); clear p0 p1 c0 c1 c2 c3 c4 c5 d0 d1 d2 d3 d4 d5; obtain ⟨p0, p1⟩ := N2.out.1.c; obtain ⟨c0, c1, c2, c3, c4, c5, -⟩ := N2.out.2.1.c; obtain ⟨d0, d1, d2, d3, d4, d5, -⟩ := U2.out.c; clear hb) | (go_at_call 8; refine (next_b u now 0 (H.out.bel N2.out.2.2) G.out u 0 HS.out).mono ?_; rintro e w3 ⟨rfl, hb⟩; have N3 := hidI (N2.out.bel (bel_trans hb (bel_alloc w3 (.cells #[.string ⟨u.a.toArray⟩, .string ⟨u.c.toArray⟩, .int .i64 u.ph, .int .i64 u.st, .int .i64 u.we, .int .i64 u.si] 26)))); have U3 := hidI (U2.out.bel (bel_trans hb (bel_alloc w3 (.cells #[.string ⟨u.a.toArray⟩, .string ⟨u.c.toArray⟩, .int .i64 u.ph, .int .i64 u.st, .int .i64 u.we, .int .i64 u.si] 26)))); have U4 := hidI (show SBox _ _ u from heap_alloc_new w3 (.cells #[.string ⟨u.a.toArray⟩, .string ⟨u.c.toArray⟩, .int .i64 u.ph, .int .i64 u.st, .int .i64 u.we, .int .i64 u.si] 26)); clear p0 p1 c0 c1 c2 c3 c4 c5 d0 d1 d2 d3 d4 d5; obtain ⟨d0, d1, d2, d3, d4, d5, -⟩ := U3.out.c; obtain ⟨c0, c1, c2, c3, c4, c5, -⟩ := U4.out.c; clear hb) | (go_at_call 8; refine (next_b t now 0 (H.out.bel N0.out.2.2) G.out u n HR.out).mono ?_; rintro e w1 ⟨rfl, hb⟩; have N1 := hidI (N0.out.bel (bel_trans hb (bel_alloc w1 (.cells #[.string ⟨u.a.toArray⟩, .string ⟨u.c.toArray⟩, .int .i64 u.ph, .int .i64 u.st, .int .i64 u.we, .int .i64 u.si] 26)))); have U1 := hidI (show SBox _ _ u from heap_alloc_new w1 (.cells #[.string ⟨u.a.toArray⟩, .string ⟨u.c.toArray⟩, .int .i64 u.ph, .int .i64 u.st, .int .i64 u.we, .int .i64 u.si] 26)); obtain ⟨p0, p1⟩ := N1.out.1.c; obtain ⟨c0, c1, c2, c3, c4, c5, -⟩ := N1.out.2.1.c; obtain ⟨d0, d1, d2, d3, d4, d5, -⟩ := U1.out.c; clear hb))
    go_ret
    exact ⟨by first | rfl | exact congrArg (fun b => Ending.returned (.bool b)) e1, N3.out.2.2⟩
  · have e0 : (n == 0) = false := by simp [hn]
    have e0n : (n != 0) = true := by simp [hn]
    clear hn
    go_enter Try.func7, Try.ntmps7
    go_wp2_with (first | (go_at_call 8; refine (next_b t now 0 (H.out.bel N0.out.2.2) G.out u n HR.out).mono ?_; rintro e w1 ⟨rfl, hb⟩; have N1 := hidI (N0.out.bel (bel_trans hb (bel_alloc w1 (.cells #[.string ⟨u.a.toArray⟩, .string ⟨u.c.toArray⟩, .int .i64 u.ph, .int .i64 u.st, .int .i64 u.we, .int .i64 u.si] 26)))); have U1 := hidI (show SBox _ _ u from heap_alloc_new w1 (.cells #[.string ⟨u.a.toArray⟩, .string ⟨u.c.toArray⟩, .int .i64 u.ph, .int .i64 u.st, .int .i64 u.we, .int .i64 u.si] 26)); obtain ⟨p0, p1⟩ := N1.out.1.c; obtain ⟨c0, c1, c2, c3, c4, c5, -⟩ := N1.out.2.1.c; obtain ⟨d0, d1, d2, d3, d4, d5, -⟩ := U1.out.c; clear hb) | (go_at_call 11; refine (ksteps_at _).mono ?_; rintro e w2 ⟨rfl, hb⟩; have N2 := hidI (N1.out.bel hb); have U2 := hidI (U1.out.bel hb); clear p0 p1 c0 c1 c2 c3 c4 c5 d0 d1 d2 d3 d4 d5; obtain ⟨p0, p1⟩ := N2.out.1.c; obtain ⟨c0, c1, c2, c3, c4, c5, -⟩ := N2.out.2.1.c; obtain ⟨d0, d1, d2, d3, d4, d5, -⟩ := U2.out.c; clear hb))
    go_ret
    exact ⟨rfl, N2.out.2.2⟩
end Go.Proofs.Ytiaaphflbkcojaa
