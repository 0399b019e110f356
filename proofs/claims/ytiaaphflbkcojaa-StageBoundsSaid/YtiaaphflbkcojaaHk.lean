/- The walk of the law StageBounds. -/
import Derived.Test.YtiaaphflbkcojaaHj
set_option linter.unusedSimpArgs false
set_option linter.unusedVariables false
namespace Go.Proofs.Ytiaaphflbkcojaa
open Go.RowKit

attribute [local go_sem ↓] eq_sta
def knownAt (u t : Sta) (l : List Stp) (k : Nat) : Bool := (u.we == 0 || u.we == 100 || u.we == t.we) || (l.take k).any fun x => u.we == x.w
theorem known_next {u t : Sta} {l : List Stp} {k : Nat} (hk : k < l.length) : knownAt u t l (k + 1) = (knownAt u t l k || (u.we == l[k].w)) := by
  simp only [knownAt, List.take_add_one, List.getElem?_eq_getElem hk, List.any_append, Option.toList, List.any_cons, List.any_nil, Bool.or_false, Bool.or_assoc]
set_option maxRecDepth 100000 in
set_option maxHeartbeats 4000000 in
theorem bounds_bad (w : World) (g : List UInt8) (l : List Stp) (v : Value) (t : Sta) (now order : Int) (h : StpsAre w l v) (hg : g.length ≤ 9223372036854775807) (u : Sta) (n : Int) (hr : nextF g l t now order = (u, n)) (hn : n ≠ 0) :
    Calls Try.prog 4 #[.agg #[.string ⟨g.toArray⟩, v], staV t, .int .i64 now, .int .i64 order] w fun e w' => e = .returned (.bool true) ∧ Below w.heap.size w w' := by
  have E1 : staV t = .agg #[.string ⟨t.a.toArray⟩, .string ⟨t.c.toArray⟩, .int .i64 t.ph, .int .i64 t.st, .int .i64 t.we, .int .i64 t.si] := rfl
  rw [E1]
  clear E1
  obtain ⟨a, c, rfl⟩ := h.form
  have H := hidI h
  have G := hidI hg
  have N0 := hidI (law_start w g (.slice a l.length c) t)
  have ll := h.1
  have HR := hidI hr
  have e0 : (n == 0) = false := by simp [hn]
  have e0n : (n != 0) = true := by simp [hn]
  have K : u = t := by
    have k := next_err (g := g) (l := l) (t := t) (now := now) (order := order) (by rw [hr]; exact hn)
    rw [hr] at k
    exact k
  have e1 : staEq u t = true := staEq_iff.2 K
  clear K hn hr h hg
  go_enter Try.func4, Try.ntmps4
  go_wp2_with (first | (go_at_call 8; refine (next_b t now order (H.out.bel N0.out.2.2) G.out u n HR.out).mono ?_; rintro e w1 ⟨rfl, hb⟩; have N1 := hidI (N0.out.bel (bel_trans hb (bel_alloc w1 (.cells #[.string ⟨u.a.toArray⟩, .string ⟨u.c.toArray⟩, .int .i64 u.ph, .int .i64 u.st, .int .i64 u.we, .int .i64 u.si] 26)))); have U1 := hidI (show SBox _ _ u from heap_alloc_new w1 (.cells #[.string ⟨u.a.toArray⟩, .string ⟨u.c.toArray⟩, .int .i64 u.ph, .int .i64 u.st, .int .i64 u.we, .int .i64 u.si] 26)); obtain ⟨p0, p1⟩ := N1.out.1.c; obtain ⟨c0, c1, c2, c3, c4, c5, -⟩ := N1.out.2.1.c; obtain ⟨d0, d1, d2, d3, d4, d5, -⟩ := U1.out.c; clear hb) | (go_at_call 11; refine (ksteps_at _).mono ?_; rintro e w2 ⟨rfl, hb⟩; have N2 := hidI (N1.out.bel hb); have U2 := hidI (U1.out.bel hb); clear p0 p1 c0 c1 c2 c3 c4 c5 d0 d1 d2 d3 d4 d5; obtain ⟨p0, p1⟩ := N2.out.1.c; obtain ⟨c0, c1, c2, c3, c4, c5, -⟩ := N2.out.2.1.c; obtain ⟨d0, d1, d2, d3, d4, d5, -⟩ := U2.out.c; clear hb))
  go_ret
  exact ⟨by first | rfl | exact congrArg (fun b => Ending.returned (.bool b)) e1, N2.out.2.2⟩
set_option maxRecDepth 100000 in
set_option maxHeartbeats 4000000 in
theorem bounds_good_walk (w : World) (g : List UInt8) (l : List Stp) (v : Value) (t : Sta) (now order : Int) (h : StpsAre w l v) (hg : g.length ≤ 9223372036854775807) (u : Sta) (hr : nextF g l t now order = (u, 0)) :
    Calls Try.prog 4 #[.agg #[.string ⟨g.toArray⟩, v], staV t, .int .i64 now, .int .i64 order] w fun e w' => e = .returned (.bool true) ∧ Below w.heap.size w w' := by
  have E1 : staV t = .agg #[.string ⟨t.a.toArray⟩, .string ⟨t.c.toArray⟩, .int .i64 t.ph, .int .i64 t.st, .int .i64 t.we, .int .i64 t.si] := rfl
  rw [E1]
  clear E1
  obtain ⟨a, c, rfl⟩ := h.form
  have H := hidI h
  have G := hidI hg
  have N0 := hidI (law_start w g (.slice a l.length c) t)
  have ll := h.1
  have HR := hidI hr
  obtain ⟨n, hn⟩ : ∃ n : Int, n = 0 := ⟨0, rfl⟩
  rw [← hn] at HR
  have e0 : (n == 0) = true := by simp [hn]
  have e0n : (n != 0) = false := by simp [hn]
  have K := bounds_good (g := g) (l := l) (t := t) (now := now) (order := order) (by rw [hr])
  rw [hr] at K
  simp only at K
  have KG := hidI K.1
  have KC := hidI K.2.2.2
  have KM := hidI K.2.1
  have KA : Hid (knownAt u t l l.length = true) := hidI (by
    rw [knownAt, List.take_of_length_le (Nat.le_refl _)]
    rcases K.2.2.1 with k | k | k | ⟨x, hx, k⟩
    · simp [k]
    · simp [k]
    · simp [k]
    · have : (l.any fun x => u.we == x.w) = true := List.any_eq_true.2 ⟨x, hx, by simp [k]⟩
      rw [this]; simp)
  have K0 : Hid (knownAt u t l 0 = (u.we == 0 || u.we == 100 || u.we == t.we)) := hidI (by simp [knownAt])
  clear K hn hr h hg
  by_cases hm : t.st < (l.length : Int)
  · have e1 : ¬ (l.length : Int) < u.st := by have := KM.out; omega
    by_cases x0 : u.we = 0
    · have y0 : (u.we == 0) = true := by simp [x0]
      have y0n : (u.we != 0) = false := by simp [x0]
      rw [y0] at K0
      clear x0
      simp only [Bool.true_or, Bool.false_or, Bool.or_true, Bool.or_false] at K0
      go_enter Try.func4, Try.ntmps4
      go_wp2_with (first | (go_at_call 8; refine (next_b t now order (H.out.bel N0.out.2.2) G.out u n HR.out).mono ?_; rintro e w1 ⟨rfl, hb⟩; have N1 := hidI (N0.out.bel (bel_trans hb (bel_alloc w1 (.cells #[.string ⟨u.a.toArray⟩, .string ⟨u.c.toArray⟩, .int .i64 u.ph, .int .i64 u.st, .int .i64 u.we, .int .i64 u.si] 26)))); have U1 := hidI (show SBox _ _ u from heap_alloc_new w1 (.cells #[.string ⟨u.a.toArray⟩, .string ⟨u.c.toArray⟩, .int .i64 u.ph, .int .i64 u.st, .int .i64 u.we, .int .i64 u.si] 26)); obtain ⟨p0, p1⟩ := N1.out.1.c; obtain ⟨c0, c1, c2, c3, c4, c5, -⟩ := N1.out.2.1.c; obtain ⟨d0, d1, d2, d3, d4, d5, -⟩ := U1.out.c; clear hb) | (go_at_call 11; refine (ksteps_at _).mono ?_; rintro e w2 ⟨rfl, hb⟩; have N2 := hidI (N1.out.bel hb); have U2 := hidI (U1.out.bel hb); clear p0 p1 c0 c1 c2 c3 c4 c5 d0 d1 d2 d3 d4 d5; obtain ⟨p0, p1⟩ := N2.out.1.c; obtain ⟨c0, c1, c2, c3, c4, c5, -⟩ := N2.out.2.1.c; obtain ⟨d0, d1, d2, d3, d4, d5, -⟩ := U2.out.c; clear hb) | (go_at_call 12; refine (good_at _ u).mono ?_; rintro e w3 ⟨rfl, hb⟩; rw [KG.out]; have N3 := hidI (N2.out.bel hb); have U3 := hidI (U2.out.bel hb); clear p0 p1 c0 c1 c2 c3 c4 c5 d0 d1 d2 d3 d4 d5; obtain ⟨p0, p1⟩ := N3.out.1.c; obtain ⟨c0, c1, c2, c3, c4, c5, -⟩ := N3.out.2.1.c; obtain ⟨d0, d1, d2, d3, d4, d5, -⟩ := U3.out.c; clear hb))
      go_loopg [11, 13, 66] l.length (fun gk b _ i wr => ∃ k : Nat, k ≤ l.length ∧ Hid (gk = l.length - k) ∧ i = .int .i64 k ∧ b = .bool (knownAt u t l k) ∧ Hid (LawI w wr g (.slice a l.length c) t) ∧ Hid (SBox wr w1.heap.size u))
      case atStart => exact ⟨0, Nat.zero_le _, hidI rfl, rfl, by rw [K0.out], N3, U3⟩
      case round =>
        clear p0 p1 c0 c1 c2 c3 c4 c5 d0 d1 d2 d3 d4 d5
        obtain ⟨k, hk, GK, rfl, rfl, N4, U4⟩ := hrel
        obtain ⟨p0, p1⟩ := N4.out.1.c; obtain ⟨c0, c1, c2, c3, c4, c5, -⟩ := N4.out.2.1.c; obtain ⟨d0, d1, d2, d3, d4, d5, -⟩ := U4.out.c
        by_cases hlt : k < l.length
        · obtain ⟨b, off, rfl, j1, j2, k1, k2⟩ := stps_at H.out hlt
          have m1 := cell_bel N4.out.2.2 k1
          have m2 := cell_bel N4.out.2.2 k2
          have w2 : (k : Int) < (l.length : Int) := by omega
          have KN := hidI (known_next (u := u) (t := t) hlt)
          have N5 := hidI (N4.out.bel (bel_alloc wr (.cells #[.int .i64 l[k].w, .int .i64 l[k].p] 34)))
          have U5 := hidI (U4.out.bel (bel_alloc wr (.cells #[.int .i64 l[k].w, .int .i64 l[k].p] 34)))
          clear k1 k2
          obtain ⟨q0, q1, q2, q3, q4, q5, -⟩ := U5.out.c
          generalize knownAt u t l k = kk at *
          cases kk with
          | true =>
            go_wp2_with fail
            go_roundg (l.length - (k + 1))
            case measure => rw [GK.out]; omega
            case rel => exact ⟨k + 1, hlt, hidI rfl, by go_num, by rw [KN.out]; rfl, N5, U5⟩
          | false =>
            go_wp2_with fail
            go_roundg (l.length - (k + 1))
            case measure => rw [GK.out]; omega
            case rel => exact ⟨k + 1, hlt, hidI rfl, by go_num, by rw [KN.out]; rfl, N5, U5⟩
        · have d1' : ¬ (k : Int) < (l.length : Int) := by omega
          have hke : k = l.length := by omega
          have KE : Hid (knownAt u t l k = true) := hidI (by rw [hke]; exact KA.out)
          rw [KE.out]
          clear hke
          by_cases ha : u.a = t.a
          · have f1 : (u.a == t.a) = true := by simp [ha]
            have f2 : (u.c == g) = true := by simp [KC.out.2]
            clear ha
            go_wp2_with fail
            go_ret
            exact ⟨rfl, N4.out.2.2⟩
          · have f1 : (u.a == t.a) = false := by simp [ha]
            obtain ⟨r1, r2⟩ := KC.out.1.resolve_left ha
            have f2 : (u.c == g) = true := by simp [KC.out.2]
            have f3 : (u.ph == 1) = true := by simp [r1]
            have f4 : (u.a == g) = true := by simp [r2]
            clear ha r1 r2
            go_wp2_with fail
            go_ret
            exact ⟨rfl, N4.out.2.2⟩
    · have y0 : (u.we == 0) = false := by simp [x0]
      have y0n : (u.we != 0) = true := by simp [x0]
      rw [y0] at K0
      clear x0
      by_cases x1 : u.we = 100
      · have y1 : (u.we == 100) = true := by simp [x1]
        have y1n : (u.we != 100) = false := by simp [x1]
        rw [y1] at K0
        clear x1
        simp only [Bool.true_or, Bool.false_or, Bool.or_true, Bool.or_false] at K0
        go_enter Try.func4, Try.ntmps4
        go_wp2_with (first | (go_at_call 8; refine (next_b t now order (H.out.bel N0.out.2.2) G.out u n HR.out).mono ?_; rintro e w1 ⟨rfl, hb⟩; have N1 := hidI (N0.out.bel (bel_trans hb (bel_alloc w1 (.cells #[.string ⟨u.a.toArray⟩, .string ⟨u.c.toArray⟩, .int .i64 u.ph, .int .i64 u.st, .int .i64 u.we, .int .i64 u.si] 26)))); have U1 := hidI (show SBox _ _ u from heap_alloc_new w1 (.cells #[.string ⟨u.a.toArray⟩, .string ⟨u.c.toArray⟩, .int .i64 u.ph, .int .i64 u.st, .int .i64 u.we, .int .i64 u.si] 26)); obtain ⟨p0, p1⟩ := N1.out.1.c; obtain ⟨c0, c1, c2, c3, c4, c5, -⟩ := N1.out.2.1.c; obtain ⟨d0, d1, d2, d3, d4, d5, -⟩ := U1.out.c; clear hb) | (go_at_call 11; refine (ksteps_at _).mono ?_; rintro e w2 ⟨rfl, hb⟩; have N2 := hidI (N1.out.bel hb); have U2 := hidI (U1.out.bel hb); clear p0 p1 c0 c1 c2 c3 c4 c5 d0 d1 d2 d3 d4 d5; obtain ⟨p0, p1⟩ := N2.out.1.c; obtain ⟨c0, c1, c2, c3, c4, c5, -⟩ := N2.out.2.1.c; obtain ⟨d0, d1, d2, d3, d4, d5, -⟩ := U2.out.c; clear hb) | (go_at_call 12; refine (good_at _ u).mono ?_; rintro e w3 ⟨rfl, hb⟩; rw [KG.out]; have N3 := hidI (N2.out.bel hb); have U3 := hidI (U2.out.bel hb); clear p0 p1 c0 c1 c2 c3 c4 c5 d0 d1 d2 d3 d4 d5; obtain ⟨p0, p1⟩ := N3.out.1.c; obtain ⟨c0, c1, c2, c3, c4, c5, -⟩ := N3.out.2.1.c; obtain ⟨d0, d1, d2, d3, d4, d5, -⟩ := U3.out.c; clear hb))
        go_loopg [11, 13, 66] l.length (fun gk b _ i wr => ∃ k : Nat, k ≤ l.length ∧ Hid (gk = l.length - k) ∧ i = .int .i64 k ∧ b = .bool (knownAt u t l k) ∧ Hid (LawI w wr g (.slice a l.length c) t) ∧ Hid (SBox wr w1.heap.size u))
        case atStart => exact ⟨0, Nat.zero_le _, hidI rfl, rfl, by rw [K0.out], N3, U3⟩
        case round =>
          clear p0 p1 c0 c1 c2 c3 c4 c5 d0 d1 d2 d3 d4 d5
          obtain ⟨k, hk, GK, rfl, rfl, N4, U4⟩ := hrel
          obtain ⟨p0, p1⟩ := N4.out.1.c; obtain ⟨c0, c1, c2, c3, c4, c5, -⟩ := N4.out.2.1.c; obtain ⟨d0, d1, d2, d3, d4, d5, -⟩ := U4.out.c
          by_cases hlt : k < l.length
          · obtain ⟨b, off, rfl, j1, j2, k1, k2⟩ := stps_at H.out hlt
            have m1 := cell_bel N4.out.2.2 k1
            have m2 := cell_bel N4.out.2.2 k2
            have w2 : (k : Int) < (l.length : Int) := by omega
            have KN := hidI (known_next (u := u) (t := t) hlt)
            have N5 := hidI (N4.out.bel (bel_alloc wr (.cells #[.int .i64 l[k].w, .int .i64 l[k].p] 34)))
            have U5 := hidI (U4.out.bel (bel_alloc wr (.cells #[.int .i64 l[k].w, .int .i64 l[k].p] 34)))
            clear k1 k2
            obtain ⟨q0, q1, q2, q3, q4, q5, -⟩ := U5.out.c
            generalize knownAt u t l k = kk at *
            cases kk with
            | true =>
              go_wp2_with fail
              go_roundg (l.length - (k + 1))
              case measure => rw [GK.out]; omega
              case rel => exact ⟨k + 1, hlt, hidI rfl, by go_num, by rw [KN.out]; rfl, N5, U5⟩
            | false =>
              go_wp2_with fail
              go_roundg (l.length - (k + 1))
              case measure => rw [GK.out]; omega
              case rel => exact ⟨k + 1, hlt, hidI rfl, by go_num, by rw [KN.out]; rfl, N5, U5⟩
          · have d1' : ¬ (k : Int) < (l.length : Int) := by omega
            have hke : k = l.length := by omega
            have KE : Hid (knownAt u t l k = true) := hidI (by rw [hke]; exact KA.out)
            rw [KE.out]
            clear hke
            by_cases ha : u.a = t.a
            · have f1 : (u.a == t.a) = true := by simp [ha]
              have f2 : (u.c == g) = true := by simp [KC.out.2]
              clear ha
              go_wp2_with fail
              go_ret
              exact ⟨rfl, N4.out.2.2⟩
            · have f1 : (u.a == t.a) = false := by simp [ha]
              obtain ⟨r1, r2⟩ := KC.out.1.resolve_left ha
              have f2 : (u.c == g) = true := by simp [KC.out.2]
              have f3 : (u.ph == 1) = true := by simp [r1]
              have f4 : (u.a == g) = true := by simp [r2]
              clear ha r1 r2
              go_wp2_with fail
              go_ret
              exact ⟨rfl, N4.out.2.2⟩
      · have y1 : (u.we == 100) = false := by simp [x1]
        have y1n : (u.we != 100) = true := by simp [x1]
        rw [y1] at K0
        clear x1
        by_cases x2 : u.we = t.we
        · have y2 : (u.we == t.we) = true := by simp [x2]
          have y2n : (u.we != t.we) = false := by simp [x2]
          rw [y2] at K0
          clear x2
          simp only [Bool.true_or, Bool.false_or, Bool.or_true, Bool.or_false] at K0
          go_enter Try.func4, Try.ntmps4
          go_wp2_with (first | (go_at_call 8; refine (next_b t now order (H.out.bel N0.out.2.2) G.out u n HR.out).mono ?_; rintro e w1 ⟨rfl, hb⟩; have N1 := hidI (N0.out.bel (bel_trans hb (bel_alloc w1 (.cells #[.string ⟨u.a.toArray⟩, .string ⟨u.c.toArray⟩, .int .i64 u.ph, .int .i64 u.st, .int .i64 u.we, .int .i64 u.si] 26)))); have U1 := hidI (show SBox _ _ u from heap_alloc_new w1 (.cells #[.string ⟨u.a.toArray⟩, .string ⟨u.c.toArray⟩, .int .i64 u.ph, .int .i64 u.st, .int .i64 u.we, .int .i64 u.si] 26)); obtain ⟨p0, p1⟩ := N1.out.1.c; obtain ⟨c0, c1, c2, c3, c4, c5, -⟩ := N1.out.2.1.c; obtain ⟨d0, d1, d2, d3, d4, d5, -⟩ := U1.out.c; clear hb) | (go_at_call 11; refine (ksteps_at _).mono ?_; rintro e w2 ⟨rfl, hb⟩; have N2 := hidI (N1.out.bel hb); have U2 := hidI (U1.out.bel hb); clear p0 p1 c0 c1 c2 c3 c4 c5 d0 d1 d2 d3 d4 d5; obtain ⟨p0, p1⟩ := N2.out.1.c; obtain ⟨c0, c1, c2, c3, c4, c5, -⟩ := N2.out.2.1.c; obtain ⟨d0, d1, d2, d3, d4, d5, -⟩ := U2.out.c; clear hb) | (go_at_call 12; refine (good_at _ u).mono ?_; rintro e w3 ⟨rfl, hb⟩; rw [KG.out]; have N3 := hidI (N2.out.bel hb); have U3 := hidI (U2.out.bel hb); clear p0 p1 c0 c1 c2 c3 c4 c5 d0 d1 d2 d3 d4 d5; obtain ⟨p0, p1⟩ := N3.out.1.c; obtain ⟨c0, c1, c2, c3, c4, c5, -⟩ := N3.out.2.1.c; obtain ⟨d0, d1, d2, d3, d4, d5, -⟩ := U3.out.c; clear hb))
          go_loopg [11, 13, 66] l.length (fun gk b _ i wr => ∃ k : Nat, k ≤ l.length ∧ Hid (gk = l.length - k) ∧ i = .int .i64 k ∧ b = .bool (knownAt u t l k) ∧ Hid (LawI w wr g (.slice a l.length c) t) ∧ Hid (SBox wr w1.heap.size u))
          case atStart => exact ⟨0, Nat.zero_le _, hidI rfl, rfl, by rw [K0.out], N3, U3⟩
          case round =>
            clear p0 p1 c0 c1 c2 c3 c4 c5 d0 d1 d2 d3 d4 d5
            obtain ⟨k, hk, GK, rfl, rfl, N4, U4⟩ := hrel
            obtain ⟨p0, p1⟩ := N4.out.1.c; obtain ⟨c0, c1, c2, c3, c4, c5, -⟩ := N4.out.2.1.c; obtain ⟨d0, d1, d2, d3, d4, d5, -⟩ := U4.out.c
            by_cases hlt : k < l.length
            · obtain ⟨b, off, rfl, j1, j2, k1, k2⟩ := stps_at H.out hlt
              have m1 := cell_bel N4.out.2.2 k1
              have m2 := cell_bel N4.out.2.2 k2
              have w2 : (k : Int) < (l.length : Int) := by omega
              have KN := hidI (known_next (u := u) (t := t) hlt)
              have N5 := hidI (N4.out.bel (bel_alloc wr (.cells #[.int .i64 l[k].w, .int .i64 l[k].p] 34)))
              have U5 := hidI (U4.out.bel (bel_alloc wr (.cells #[.int .i64 l[k].w, .int .i64 l[k].p] 34)))
              clear k1 k2
              obtain ⟨q0, q1, q2, q3, q4, q5, -⟩ := U5.out.c
              generalize knownAt u t l k = kk at *
              cases kk with
              | true =>
                go_wp2_with fail
                go_roundg (l.length - (k + 1))
                case measure => rw [GK.out]; omega
                case rel => exact ⟨k + 1, hlt, hidI rfl, by go_num, by rw [KN.out]; rfl, N5, U5⟩
              | false =>
                go_wp2_with fail
                go_roundg (l.length - (k + 1))
                case measure => rw [GK.out]; omega
                case rel => exact ⟨k + 1, hlt, hidI rfl, by go_num, by rw [KN.out]; rfl, N5, U5⟩
            · have d1' : ¬ (k : Int) < (l.length : Int) := by omega
              have hke : k = l.length := by omega
              have KE : Hid (knownAt u t l k = true) := hidI (by rw [hke]; exact KA.out)
              rw [KE.out]
              clear hke
              by_cases ha : u.a = t.a
              · have f1 : (u.a == t.a) = true := by simp [ha]
                have f2 : (u.c == g) = true := by simp [KC.out.2]
                clear ha
                go_wp2_with fail
                go_ret
                exact ⟨rfl, N4.out.2.2⟩
              · have f1 : (u.a == t.a) = false := by simp [ha]
                obtain ⟨r1, r2⟩ := KC.out.1.resolve_left ha
                have f2 : (u.c == g) = true := by simp [KC.out.2]
                have f3 : (u.ph == 1) = true := by simp [r1]
                have f4 : (u.a == g) = true := by simp [r2]
                clear ha r1 r2
                go_wp2_with fail
                go_ret
                exact ⟨rfl, N4.out.2.2⟩
        · have y2 : (u.we == t.we) = false := by simp [x2]
          have y2n : (u.we != t.we) = true := by simp [x2]
          rw [y2] at K0
          clear x2
          simp only [Bool.true_or, Bool.false_or, Bool.or_true, Bool.or_false] at K0
          go_enter Try.func4, Try.ntmps4
          go_wp2_with (first | (go_at_call 8; refine (next_b t now order (H.out.bel N0.out.2.2) G.out u n HR.out).mono ?_; rintro e w1 ⟨rfl, hb⟩; have N1 := hidI (N0.out.bel (bel_trans hb (bel_alloc w1 (.cells #[.string ⟨u.a.toArray⟩, .string ⟨u.c.toArray⟩, .int .i64 u.ph, .int .i64 u.st, .int .i64 u.we, .int .i64 u.si] 26)))); have U1 := hidI (show SBox _ _ u from heap_alloc_new w1 (.cells #[.string ⟨u.a.toArray⟩, .string ⟨u.c.toArray⟩, .int .i64 u.ph, .int .i64 u.st, .int .i64 u.we, .int .i64 u.si] 26)); obtain ⟨p0, p1⟩ := N1.out.1.c; obtain ⟨c0, c1, c2, c3, c4, c5, -⟩ := N1.out.2.1.c; obtain ⟨d0, d1, d2, d3, d4, d5, -⟩ := U1.out.c; clear hb) | (go_at_call 11; refine (ksteps_at _).mono ?_; rintro e w2 ⟨rfl, hb⟩; have N2 := hidI (N1.out.bel hb); have U2 := hidI (U1.out.bel hb); clear p0 p1 c0 c1 c2 c3 c4 c5 d0 d1 d2 d3 d4 d5; obtain ⟨p0, p1⟩ := N2.out.1.c; obtain ⟨c0, c1, c2, c3, c4, c5, -⟩ := N2.out.2.1.c; obtain ⟨d0, d1, d2, d3, d4, d5, -⟩ := U2.out.c; clear hb) | (go_at_call 12; refine (good_at _ u).mono ?_; rintro e w3 ⟨rfl, hb⟩; rw [KG.out]; have N3 := hidI (N2.out.bel hb); have U3 := hidI (U2.out.bel hb); clear p0 p1 c0 c1 c2 c3 c4 c5 d0 d1 d2 d3 d4 d5; obtain ⟨p0, p1⟩ := N3.out.1.c; obtain ⟨c0, c1, c2, c3, c4, c5, -⟩ := N3.out.2.1.c; obtain ⟨d0, d1, d2, d3, d4, d5, -⟩ := U3.out.c; clear hb))
          go_loopg [11, 13, 66] l.length (fun gk b _ i wr => ∃ k : Nat, k ≤ l.length ∧ Hid (gk = l.length - k) ∧ i = .int .i64 k ∧ b = .bool (knownAt u t l k) ∧ Hid (LawI w wr g (.slice a l.length c) t) ∧ Hid (SBox wr w1.heap.size u))
          case atStart => exact ⟨0, Nat.zero_le _, hidI rfl, rfl, by rw [K0.out], N3, U3⟩
          case round =>
            clear p0 p1 c0 c1 c2 c3 c4 c5 d0 d1 d2 d3 d4 d5
            obtain ⟨k, hk, GK, rfl, rfl, N4, U4⟩ := hrel
            obtain ⟨p0, p1⟩ := N4.out.1.c; obtain ⟨c0, c1, c2, c3, c4, c5, -⟩ := N4.out.2.1.c; obtain ⟨d0, d1, d2, d3, d4, d5, -⟩ := U4.out.c
            by_cases hlt : k < l.length
            · obtain ⟨b, off, rfl, j1, j2, k1, k2⟩ := stps_at H.out hlt
              have m1 := cell_bel N4.out.2.2 k1
              have m2 := cell_bel N4.out.2.2 k2
              have w2 : (k : Int) < (l.length : Int) := by omega
              have KN := hidI (known_next (u := u) (t := t) hlt)
              have N5 := hidI (N4.out.bel (bel_alloc wr (.cells #[.int .i64 l[k].w, .int .i64 l[k].p] 34)))
              have U5 := hidI (U4.out.bel (bel_alloc wr (.cells #[.int .i64 l[k].w, .int .i64 l[k].p] 34)))
              clear k1 k2
              obtain ⟨q0, q1, q2, q3, q4, q5, -⟩ := U5.out.c
              generalize knownAt u t l k = kk at *
              cases kk with
              | true =>
                go_wp2_with fail
                go_roundg (l.length - (k + 1))
                case measure => rw [GK.out]; omega
                case rel => exact ⟨k + 1, hlt, hidI rfl, by go_num, by rw [KN.out]; rfl, N5, U5⟩
              | false =>
                go_wp2_with fail
                go_roundg (l.length - (k + 1))
                case measure => rw [GK.out]; omega
                case rel => exact ⟨k + 1, hlt, hidI rfl, by go_num, by rw [KN.out]; rfl, N5, U5⟩
            · have d1' : ¬ (k : Int) < (l.length : Int) := by omega
              have hke : k = l.length := by omega
              have KE : Hid (knownAt u t l k = true) := hidI (by rw [hke]; exact KA.out)
              rw [KE.out]
              clear hke
              by_cases ha : u.a = t.a
              · have f1 : (u.a == t.a) = true := by simp [ha]
                have f2 : (u.c == g) = true := by simp [KC.out.2]
                clear ha
                go_wp2_with fail
                go_ret
                exact ⟨rfl, N4.out.2.2⟩
              · have f1 : (u.a == t.a) = false := by simp [ha]
                obtain ⟨r1, r2⟩ := KC.out.1.resolve_left ha
                have f2 : (u.c == g) = true := by simp [KC.out.2]
                have f3 : (u.ph == 1) = true := by simp [r1]
                have f4 : (u.a == g) = true := by simp [r2]
                clear ha r1 r2
                go_wp2_with fail
                go_ret
                exact ⟨rfl, N4.out.2.2⟩
  · have e1 : ¬ t.st < u.st := by have := KM.out; omega
    by_cases x0 : u.we = 0
    · have y0 : (u.we == 0) = true := by simp [x0]
      have y0n : (u.we != 0) = false := by simp [x0]
      rw [y0] at K0
      clear x0
      simp only [Bool.true_or, Bool.false_or, Bool.or_true, Bool.or_false] at K0
      go_enter Try.func4, Try.ntmps4
      go_wp2_with (first | (go_at_call 8; refine (next_b t now order (H.out.bel N0.out.2.2) G.out u n HR.out).mono ?_; rintro e w1 ⟨rfl, hb⟩; have N1 := hidI (N0.out.bel (bel_trans hb (bel_alloc w1 (.cells #[.string ⟨u.a.toArray⟩, .string ⟨u.c.toArray⟩, .int .i64 u.ph, .int .i64 u.st, .int .i64 u.we, .int .i64 u.si] 26)))); have U1 := hidI (show SBox _ _ u from heap_alloc_new w1 (.cells #[.string ⟨u.a.toArray⟩, .string ⟨u.c.toArray⟩, .int .i64 u.ph, .int .i64 u.st, .int .i64 u.we, .int .i64 u.si] 26)); obtain ⟨p0, p1⟩ := N1.out.1.c; obtain ⟨c0, c1, c2, c3, c4, c5, -⟩ := N1.out.2.1.c; obtain ⟨d0, d1, d2, d3, d4, d5, -⟩ := U1.out.c; clear hb) | (go_at_call 11; refine (ksteps_at _).mono ?_; rintro e w2 ⟨rfl, hb⟩; have N2 := hidI (N1.out.bel hb); have U2 := hidI (U1.out.bel hb); clear p0 p1 c0 c1 c2 c3 c4 c5 d0 d1 d2 d3 d4 d5; obtain ⟨p0, p1⟩ := N2.out.1.c; obtain ⟨c0, c1, c2, c3, c4, c5, -⟩ := N2.out.2.1.c; obtain ⟨d0, d1, d2, d3, d4, d5, -⟩ := U2.out.c; clear hb) | (go_at_call 12; refine (good_at _ u).mono ?_; rintro e w3 ⟨rfl, hb⟩; rw [KG.out]; have N3 := hidI (N2.out.bel hb); have U3 := hidI (U2.out.bel hb); clear p0 p1 c0 c1 c2 c3 c4 c5 d0 d1 d2 d3 d4 d5; obtain ⟨p0, p1⟩ := N3.out.1.c; obtain ⟨c0, c1, c2, c3, c4, c5, -⟩ := N3.out.2.1.c; obtain ⟨d0, d1, d2, d3, d4, d5, -⟩ := U3.out.c; clear hb))
      go_loopg [11, 13, 66] l.length (fun gk b _ i wr => ∃ k : Nat, k ≤ l.length ∧ Hid (gk = l.length - k) ∧ i = .int .i64 k ∧ b = .bool (knownAt u t l k) ∧ Hid (LawI w wr g (.slice a l.length c) t) ∧ Hid (SBox wr w1.heap.size u))
      case atStart => exact ⟨0, Nat.zero_le _, hidI rfl, rfl, by rw [K0.out], N3, U3⟩
      case round =>
        clear p0 p1 c0 c1 c2 c3 c4 c5 d0 d1 d2 d3 d4 d5
        obtain ⟨k, hk, GK, rfl, rfl, N4, U4⟩ := hrel
        obtain ⟨p0, p1⟩ := N4.out.1.c; obtain ⟨c0, c1, c2, c3, c4, c5, -⟩ := N4.out.2.1.c; obtain ⟨d0, d1, d2, d3, d4, d5, -⟩ := U4.out.c
        by_cases hlt : k < l.length
        · obtain ⟨b, off, rfl, j1, j2, k1, k2⟩ := stps_at H.out hlt
          have m1 := cell_bel N4.out.2.2 k1
          have m2 := cell_bel N4.out.2.2 k2
          have w2 : (k : Int) < (l.length : Int) := by omega
          have KN := hidI (known_next (u := u) (t := t) hlt)
          have N5 := hidI (N4.out.bel (bel_alloc wr (.cells #[.int .i64 l[k].w, .int .i64 l[k].p] 34)))
          have U5 := hidI (U4.out.bel (bel_alloc wr (.cells #[.int .i64 l[k].w, .int .i64 l[k].p] 34)))
          clear k1 k2
          obtain ⟨q0, q1, q2, q3, q4, q5, -⟩ := U5.out.c
          generalize knownAt u t l k = kk at *
          cases kk with
          | true =>
            go_wp2_with fail
            go_roundg (l.length - (k + 1))
            case measure => rw [GK.out]; omega
            case rel => exact ⟨k + 1, hlt, hidI rfl, by go_num, by rw [KN.out]; rfl, N5, U5⟩
          | false =>
            go_wp2_with fail
            go_roundg (l.length - (k + 1))
            case measure => rw [GK.out]; omega
            case rel => exact ⟨k + 1, hlt, hidI rfl, by go_num, by rw [KN.out]; rfl, N5, U5⟩
        · have d1' : ¬ (k : Int) < (l.length : Int) := by omega
          have hke : k = l.length := by omega
          have KE : Hid (knownAt u t l k = true) := hidI (by rw [hke]; exact KA.out)
          rw [KE.out]
          clear hke
          by_cases ha : u.a = t.a
          · have f1 : (u.a == t.a) = true := by simp [ha]
            have f2 : (u.c == g) = true := by simp [KC.out.2]
            clear ha
            go_wp2_with fail
            go_ret
            exact ⟨rfl, N4.out.2.2⟩
          · have f1 : (u.a == t.a) = false := by simp [ha]
            obtain ⟨r1, r2⟩ := KC.out.1.resolve_left ha
            have f2 : (u.c == g) = true := by simp [KC.out.2]
            have f3 : (u.ph == 1) = true := by simp [r1]
            have f4 : (u.a == g) = true := by simp [r2]
            clear ha r1 r2
            go_wp2_with fail
            go_ret
            exact ⟨rfl, N4.out.2.2⟩
    · have y0 : (u.we == 0) = false := by simp [x0]
      have y0n : (u.we != 0) = true := by simp [x0]
      rw [y0] at K0
      clear x0
      by_cases x1 : u.we = 100
      · have y1 : (u.we == 100) = true := by simp [x1]
        have y1n : (u.we != 100) = false := by simp [x1]
        rw [y1] at K0
        clear x1
        simp only [Bool.true_or, Bool.false_or, Bool.or_true, Bool.or_false] at K0
        go_enter Try.func4, Try.ntmps4
        go_wp2_with (first | (go_at_call 8; refine (next_b t now order (H.out.bel N0.out.2.2) G.out u n HR.out).mono ?_; rintro e w1 ⟨rfl, hb⟩; have N1 := hidI (N0.out.bel (bel_trans hb (bel_alloc w1 (.cells #[.string ⟨u.a.toArray⟩, .string ⟨u.c.toArray⟩, .int .i64 u.ph, .int .i64 u.st, .int .i64 u.we, .int .i64 u.si] 26)))); have U1 := hidI (show SBox _ _ u from heap_alloc_new w1 (.cells #[.string ⟨u.a.toArray⟩, .string ⟨u.c.toArray⟩, .int .i64 u.ph, .int .i64 u.st, .int .i64 u.we, .int .i64 u.si] 26)); obtain ⟨p0, p1⟩ := N1.out.1.c; obtain ⟨c0, c1, c2, c3, c4, c5, -⟩ := N1.out.2.1.c; obtain ⟨d0, d1, d2, d3, d4, d5, -⟩ := U1.out.c; clear hb) | (go_at_call 11; refine (ksteps_at _).mono ?_; rintro e w2 ⟨rfl, hb⟩; have N2 := hidI (N1.out.bel hb); have U2 := hidI (U1.out.bel hb); clear p0 p1 c0 c1 c2 c3 c4 c5 d0 d1 d2 d3 d4 d5; obtain ⟨p0, p1⟩ := N2.out.1.c; obtain ⟨c0, c1, c2, c3, c4, c5, -⟩ := N2.out.2.1.c; obtain ⟨d0, d1, d2, d3, d4, d5, -⟩ := U2.out.c; clear hb) | (go_at_call 12; refine (good_at _ u).mono ?_; rintro e w3 ⟨rfl, hb⟩; rw [KG.out]; have N3 := hidI (N2.out.bel hb); have U3 := hidI (U2.out.bel hb); clear p0 p1 c0 c1 c2 c3 c4 c5 d0 d1 d2 d3 d4 d5; obtain ⟨p0, p1⟩ := N3.out.1.c; obtain ⟨c0, c1, c2, c3, c4, c5, -⟩ := N3.out.2.1.c; obtain ⟨d0, d1, d2, d3, d4, d5, -⟩ := U3.out.c; clear hb))
        go_loopg [11, 13, 66] l.length (fun gk b _ i wr => ∃ k : Nat, k ≤ l.length ∧ Hid (gk = l.length - k) ∧ i = .int .i64 k ∧ b = .bool (knownAt u t l k) ∧ Hid (LawI w wr g (.slice a l.length c) t) ∧ Hid (SBox wr w1.heap.size u))
        case atStart => exact ⟨0, Nat.zero_le _, hidI rfl, rfl, by rw [K0.out], N3, U3⟩
        case round =>
          clear p0 p1 c0 c1 c2 c3 c4 c5 d0 d1 d2 d3 d4 d5
          obtain ⟨k, hk, GK, rfl, rfl, N4, U4⟩ := hrel
          obtain ⟨p0, p1⟩ := N4.out.1.c; obtain ⟨c0, c1, c2, c3, c4, c5, -⟩ := N4.out.2.1.c; obtain ⟨d0, d1, d2, d3, d4, d5, -⟩ := U4.out.c
          by_cases hlt : k < l.length
          · obtain ⟨b, off, rfl, j1, j2, k1, k2⟩ := stps_at H.out hlt
            have m1 := cell_bel N4.out.2.2 k1
            have m2 := cell_bel N4.out.2.2 k2
            have w2 : (k : Int) < (l.length : Int) := by omega
            have KN := hidI (known_next (u := u) (t := t) hlt)
            have N5 := hidI (N4.out.bel (bel_alloc wr (.cells #[.int .i64 l[k].w, .int .i64 l[k].p] 34)))
            have U5 := hidI (U4.out.bel (bel_alloc wr (.cells #[.int .i64 l[k].w, .int .i64 l[k].p] 34)))
            clear k1 k2
            obtain ⟨q0, q1, q2, q3, q4, q5, -⟩ := U5.out.c
            generalize knownAt u t l k = kk at *
            cases kk with
            | true =>
              go_wp2_with fail
              go_roundg (l.length - (k + 1))
              case measure => rw [GK.out]; omega
              case rel => exact ⟨k + 1, hlt, hidI rfl, by go_num, by rw [KN.out]; rfl, N5, U5⟩
            | false =>
              go_wp2_with fail
              go_roundg (l.length - (k + 1))
              case measure => rw [GK.out]; omega
              case rel => exact ⟨k + 1, hlt, hidI rfl, by go_num, by rw [KN.out]; rfl, N5, U5⟩
          · have d1' : ¬ (k : Int) < (l.length : Int) := by omega
            have hke : k = l.length := by omega
            have KE : Hid (knownAt u t l k = true) := hidI (by rw [hke]; exact KA.out)
            rw [KE.out]
            clear hke
            by_cases ha : u.a = t.a
            · have f1 : (u.a == t.a) = true := by simp [ha]
              have f2 : (u.c == g) = true := by simp [KC.out.2]
              clear ha
              go_wp2_with fail
              go_ret
              exact ⟨rfl, N4.out.2.2⟩
            · have f1 : (u.a == t.a) = false := by simp [ha]
              obtain ⟨r1, r2⟩ := KC.out.1.resolve_left ha
              have f2 : (u.c == g) = true := by simp [KC.out.2]
              have f3 : (u.ph == 1) = true := by simp [r1]
              have f4 : (u.a == g) = true := by simp [r2]
              clear ha r1 r2
              go_wp2_with fail
              go_ret
              exact ⟨rfl, N4.out.2.2⟩
      · have y1 : (u.we == 100) = false := by simp [x1]
        have y1n : (u.we != 100) = true := by simp [x1]
        rw [y1] at K0
        clear x1
        by_cases x2 : u.we = t.we
        · have y2 : (u.we == t.we) = true := by simp [x2]
          have y2n : (u.we != t.we) = false := by simp [x2]
          rw [y2] at K0
          clear x2
          simp only [Bool.true_or, Bool.false_or, Bool.or_true, Bool.or_false] at K0
          go_enter Try.func4, Try.ntmps4
          go_wp2_with (first | (go_at_call 8; refine (next_b t now order (H.out.bel N0.out.2.2) G.out u n HR.out).mono ?_; rintro e w1 ⟨rfl, hb⟩; have N1 := hidI (N0.out.bel (bel_trans hb (bel_alloc w1 (.cells #[.string ⟨u.a.toArray⟩, .string ⟨u.c.toArray⟩, .int .i64 u.ph, .int .i64 u.st, .int .i64 u.we, .int .i64 u.si] 26)))); have U1 := hidI (show SBox _ _ u from heap_alloc_new w1 (.cells #[.string ⟨u.a.toArray⟩, .string ⟨u.c.toArray⟩, .int .i64 u.ph, .int .i64 u.st, .int .i64 u.we, .int .i64 u.si] 26)); obtain ⟨p0, p1⟩ := N1.out.1.c; obtain ⟨c0, c1, c2, c3, c4, c5, -⟩ := N1.out.2.1.c; obtain ⟨d0, d1, d2, d3, d4, d5, -⟩ := U1.out.c; clear hb) | (go_at_call 11; refine (ksteps_at _).mono ?_; rintro e w2 ⟨rfl, hb⟩; have N2 := hidI (N1.out.bel hb); have U2 := hidI (U1.out.bel hb); clear p0 p1 c0 c1 c2 c3 c4 c5 d0 d1 d2 d3 d4 d5; obtain ⟨p0, p1⟩ := N2.out.1.c; obtain ⟨c0, c1, c2, c3, c4, c5, -⟩ := N2.out.2.1.c; obtain ⟨d0, d1, d2, d3, d4, d5, -⟩ := U2.out.c; clear hb) | (go_at_call 12; refine (good_at _ u).mono ?_; rintro e w3 ⟨rfl, hb⟩; rw [KG.out]; have N3 := hidI (N2.out.bel hb); have U3 := hidI (U2.out.bel hb); clear p0 p1 c0 c1 c2 c3 c4 c5 d0 d1 d2 d3 d4 d5; obtain ⟨p0, p1⟩ := N3.out.1.c; obtain ⟨c0, c1, c2, c3, c4, c5, -⟩ := N3.out.2.1.c; obtain ⟨d0, d1, d2, d3, d4, d5, -⟩ := U3.out.c; clear hb))
          go_loopg [11, 13, 66] l.length (fun gk b _ i wr => ∃ k : Nat, k ≤ l.length ∧ Hid (gk = l.length - k) ∧ i = .int .i64 k ∧ b = .bool (knownAt u t l k) ∧ Hid (LawI w wr g (.slice a l.length c) t) ∧ Hid (SBox wr w1.heap.size u))
          case atStart => exact ⟨0, Nat.zero_le _, hidI rfl, rfl, by rw [K0.out], N3, U3⟩
          case round =>
            clear p0 p1 c0 c1 c2 c3 c4 c5 d0 d1 d2 d3 d4 d5
            obtain ⟨k, hk, GK, rfl, rfl, N4, U4⟩ := hrel
            obtain ⟨p0, p1⟩ := N4.out.1.c; obtain ⟨c0, c1, c2, c3, c4, c5, -⟩ := N4.out.2.1.c; obtain ⟨d0, d1, d2, d3, d4, d5, -⟩ := U4.out.c
            by_cases hlt : k < l.length
            · obtain ⟨b, off, rfl, j1, j2, k1, k2⟩ := stps_at H.out hlt
              have m1 := cell_bel N4.out.2.2 k1
              have m2 := cell_bel N4.out.2.2 k2
              have w2 : (k : Int) < (l.length : Int) := by omega
              have KN := hidI (known_next (u := u) (t := t) hlt)
              have N5 := hidI (N4.out.bel (bel_alloc wr (.cells #[.int .i64 l[k].w, .int .i64 l[k].p] 34)))
              have U5 := hidI (U4.out.bel (bel_alloc wr (.cells #[.int .i64 l[k].w, .int .i64 l[k].p] 34)))
              clear k1 k2
              obtain ⟨q0, q1, q2, q3, q4, q5, -⟩ := U5.out.c
              generalize knownAt u t l k = kk at *
              cases kk with
              | true =>
                go_wp2_with fail
                go_roundg (l.length - (k + 1))
                case measure => rw [GK.out]; omega
                case rel => exact ⟨k + 1, hlt, hidI rfl, by go_num, by rw [KN.out]; rfl, N5, U5⟩
              | false =>
                go_wp2_with fail
                go_roundg (l.length - (k + 1))
                case measure => rw [GK.out]; omega
                case rel => exact ⟨k + 1, hlt, hidI rfl, by go_num, by rw [KN.out]; rfl, N5, U5⟩
            · have d1' : ¬ (k : Int) < (l.length : Int) := by omega
              have hke : k = l.length := by omega
              have KE : Hid (knownAt u t l k = true) := hidI (by rw [hke]; exact KA.out)
              rw [KE.out]
              clear hke
              by_cases ha : u.a = t.a
              · have f1 : (u.a == t.a) = true := by simp [ha]
                have f2 : (u.c == g) = true := by simp [KC.out.2]
                clear ha
                go_wp2_with fail
                go_ret
                exact ⟨rfl, N4.out.2.2⟩
              · have f1 : (u.a == t.a) = false := by simp [ha]
                obtain ⟨r1, r2⟩ := KC.out.1.resolve_left ha
                have f2 : (u.c == g) = true := by simp [KC.out.2]
                have f3 : (u.ph == 1) = true := by simp [r1]
                have f4 : (u.a == g) = true := by simp [r2]
                clear ha r1 r2
                go_wp2_with fail
                go_ret
                exact ⟨rfl, N4.out.2.2⟩
        · have y2 : (u.we == t.we) = false := by simp [x2]
          have y2n : (u.we != t.we) = true := by simp [x2]
          rw [y2] at K0
          clear x2
          simp only [Bool.true_or, Bool.false_or, Bool.or_true, Bool.or_false] at K0
          go_enter Try.func4, Try.ntmps4
          go_wp2_with (first | (go_at_call 8; refine (next_b t now order (H.out.bel N0.out.2.2) G.out u n HR.out).mono ?_; rintro e w1 ⟨rfl, hb⟩; have N1 := hidI (N0.out.bel (bel_trans hb (bel_alloc w1 (.cells #[.string ⟨u.a.toArray⟩, .string ⟨u.c.toArray⟩, .int .i64 u.ph, .int .i64 u.st, .int .i64 u.we, .int .i64 u.si] 26)))); have U1 := hidI (show SBox _ _ u from heap_alloc_new w1 (.cells #[.string ⟨u.a.toArray⟩, .string ⟨u.c.toArray⟩, .int .i64 u.ph, .int .i64 u.st, .int .i64 u.we, .int .i64 u.si] 26)); obtain ⟨p0, p1⟩ := N1.out.1.c; obtain ⟨c0, c1, c2, c3, c4, c5, -⟩ := N1.out.2.1.c; obtain ⟨d0, d1, d2, d3, d4, d5, -⟩ := U1.out.c; clear hb) | (go_at_call 11; refine (ksteps_at _).mono ?_; rintro e w2 ⟨rfl, hb⟩; have N2 := hidI (N1.out.bel hb); have U2 := hidI (U1.out.bel hb); clear p0 p1 c0 c1 c2 c3 c4 c5 d0 d1 d2 d3 d4 d5; obtain ⟨p0, p1⟩ := N2.out.1.c; obtain ⟨c0, c1, c2, c3, c4, c5, -⟩ := N2.out.2.1.c; obtain ⟨d0, d1, d2, d3, d4, d5, -⟩ := U2.out.c; clear hb) | (go_at_call 12; refine (good_at _ u).mono ?_; rintro e w3 ⟨rfl, hb⟩; rw [KG.out]; have N3 := hidI (N2.out.bel hb); have U3 := hidI (U2.out.bel hb); clear p0 p1 c0 c1 c2 c3 c4 c5 d0 d1 d2 d3 d4 d5; obtain ⟨p0, p1⟩ := N3.out.1.c; obtain ⟨c0, c1, c2, c3, c4, c5, -⟩ := N3.out.2.1.c; obtain ⟨d0, d1, d2, d3, d4, d5, -⟩ := U3.out.c; clear hb))
          go_loopg [11, 13, 66] l.length (fun gk b _ i wr => ∃ k : Nat, k ≤ l.length ∧ Hid (gk = l.length - k) ∧ i = .int .i64 k ∧ b = .bool (knownAt u t l k) ∧ Hid (LawI w wr g (.slice a l.length c) t) ∧ Hid (SBox wr w1.heap.size u))
          case atStart => exact ⟨0, Nat.zero_le _, hidI rfl, rfl, by rw [K0.out], N3, U3⟩
          case round =>
            clear p0 p1 c0 c1 c2 c3 c4 c5 d0 d1 d2 d3 d4 d5
            obtain ⟨k, hk, GK, rfl, rfl, N4, U4⟩ := hrel
            obtain ⟨p0, p1⟩ := N4.out.1.c; obtain ⟨c0, c1, c2, c3, c4, c5, -⟩ := N4.out.2.1.c; obtain ⟨d0, d1, d2, d3, d4, d5, -⟩ := U4.out.c
            by_cases hlt : k < l.length
            · obtain ⟨b, off, rfl, j1, j2, k1, k2⟩ := stps_at H.out hlt
              have m1 := cell_bel N4.out.2.2 k1
              have m2 := cell_bel N4.out.2.2 k2
              have w2 : (k : Int) < (l.length : Int) := by omega
              have KN := hidI (known_next (u := u) (t := t) hlt)
              have N5 := hidI (N4.out.bel (bel_alloc wr (.cells #[.int .i64 l[k].w, .int .i64 l[k].p] 34)))
              have U5 := hidI (U4.out.bel (bel_alloc wr (.cells #[.int .i64 l[k].w, .int .i64 l[k].p] 34)))
              clear k1 k2
              obtain ⟨q0, q1, q2, q3, q4, q5, -⟩ := U5.out.c
              generalize knownAt u t l k = kk at *
              cases kk with
              | true =>
                go_wp2_with fail
                go_roundg (l.length - (k + 1))
                case measure => rw [GK.out]; omega
                case rel => exact ⟨k + 1, hlt, hidI rfl, by go_num, by rw [KN.out]; rfl, N5, U5⟩
              | false =>
                go_wp2_with fail
                go_roundg (l.length - (k + 1))
                case measure => rw [GK.out]; omega
                case rel => exact ⟨k + 1, hlt, hidI rfl, by go_num, by rw [KN.out]; rfl, N5, U5⟩
            · have d1' : ¬ (k : Int) < (l.length : Int) := by omega
              have hke : k = l.length := by omega
              have KE : Hid (knownAt u t l k = true) := hidI (by rw [hke]; exact KA.out)
              rw [KE.out]
              clear hke
              by_cases ha : u.a = t.a
              · have f1 : (u.a == t.a) = true := by simp [ha]
                have f2 : (u.c == g) = true := by simp [KC.out.2]
                clear ha
                go_wp2_with fail
                go_ret
                exact ⟨rfl, N4.out.2.2⟩
              · have f1 : (u.a == t.a) = false := by simp [ha]
                obtain ⟨r1, r2⟩ := KC.out.1.resolve_left ha
                have f2 : (u.c == g) = true := by simp [KC.out.2]
                have f3 : (u.ph == 1) = true := by simp [r1]
                have f4 : (u.a == g) = true := by simp [r2]
                clear ha r1 r2
                go_wp2_with fail
                go_ret
                exact ⟨rfl, N4.out.2.2⟩

theorem bounds_walk (w : World) (g : List UInt8) (l : List Stp) (v : Value) (t : Sta) (now order : Int) (h : StpsAre w l v) (hg : g.length ≤ 9223372036854775807) :
    Calls Try.prog 4 #[.agg #[.string ⟨g.toArray⟩, v], staV t, .int .i64 now, .int .i64 order] w fun e w' => e = .returned (.bool true) ∧ Below w.heap.size w w' := by
  obtain ⟨r, hr⟩ : ∃ r, nextF g l t now order = r := ⟨_, rfl⟩
  obtain ⟨u, n⟩ := r
  by_cases hn : n = 0
  · subst hn; exact bounds_good_walk w g l v t now order h hg u hr
  · exact bounds_bad w g l v t now order h hg u n hr hn
end Go.Proofs.Ytiaaphflbkcojaa
