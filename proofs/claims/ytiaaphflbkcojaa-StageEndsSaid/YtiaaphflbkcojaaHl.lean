/- The walk of the law StageEnds. -/
import Derived.Test.YtiaaphflbkcojaaHj
import Derived.Test.YtiaaphflbkcojaaHm
set_option linter.unusedSimpArgs false
set_option linter.unusedVariables false
namespace Go.Proofs.Ytiaaphflbkcojaa
open Go.RowKit

def badPause (x : Stp) : Bool := (x.w == -1) && ((x.p == 0) || decide (1073741824 < x.p))
theorem pause_ok {l : List Stp} (h : ∀ x ∈ l, badPause x = false) : PauseOk l := by
  intro x hx hw
  have := h x hx
  simp [badPause, hw] at this
  exact ⟨this.1, by omega⟩
theorem SBox.cf {w : World} {g : Nat} {s : Sta} (h : SBox w g s) : w.frozen? ⟨g, 0, none⟩ = false ∧ w.frozen? ⟨g, 1, none⟩ = false ∧ w.frozen? ⟨g, 2, none⟩ = false ∧ w.frozen? ⟨g, 3, none⟩ = false ∧ w.frozen? ⟨g, 4, none⟩ = false ∧ w.frozen? ⟨g, 5, none⟩ = false := h.c.2.2.2.2.2.2
theorem LawI.set {w wr : World} {g : List UInt8} {v : Value} {s : Sta} (h : LawI w wr g v s) (t : Sta) : LawI w (set6 wr (w.heap.size + 1) t) g v t :=
  ⟨((((((Below.heap_setCell _ ⟨w.heap.size + 1, 5, none⟩ _ w.heap.size (by simp)).trans (Below.heap_setCell _ ⟨w.heap.size + 1, 4, none⟩ _ w.heap.size (by simp))).trans (Below.heap_setCell _ ⟨w.heap.size + 1, 3, none⟩ _ w.heap.size (by simp))).trans (Below.heap_setCell _ ⟨w.heap.size + 1, 2, none⟩ _ w.heap.size (by simp))).trans (Below.heap_setCell _ ⟨w.heap.size + 1, 1, none⟩ _ w.heap.size (by simp))).trans (Below.heap_setCell _ ⟨w.heap.size + 1, 0, none⟩ _ w.heap.size (by simp))).trans h.1,
   h.2.1.set t, bel_set6 h.2.2 (by omega) t⟩
set_option maxRecDepth 100000 in
set_option maxHeartbeats 4000000 in
theorem ends_walk (w : World) (g : List UInt8) (l : List Stp) (v : Value) (t : Sta) (now : Int) (h : StpsAre w l v) (hg : g.length ≤ 9223372036854775807) :
    Calls Try.prog 6 #[.agg #[.string ⟨g.toArray⟩, v], staV t, .int .i64 now] w fun e w' => e = .returned (.bool true) ∧ Below w.heap.size w w' := by
  have E1 : staV t = .agg #[.string ⟨t.a.toArray⟩, .string ⟨t.c.toArray⟩, .int .i64 t.ph, .int .i64 t.st, .int .i64 t.we, .int .i64 t.si] := rfl
  rw [E1]
  clear E1
  obtain ⟨a, c, rfl⟩ := h.form
  have H := hidI h
  have G := hidI hg
  have N0 := hidI (law_start w g (.slice a l.length c) t)
  have ll := h.1
  clear h hg
  go_enter Try.func6, Try.ntmps6
  go_wp2_with fail
  go_loopg [8, 14] l.length (fun gk _ i wr => ∃ k : Nat, k ≤ l.length ∧ Hid (gk = l.length - k) ∧ i = .int .i64 k ∧ Hid (LawI w wr g (.slice a l.length c) t) ∧ Hid (∀ x ∈ l.take k, badPause x = false))
  case atStart => exact ⟨0, Nat.zero_le _, hidI rfl, rfl, N0, hidI (fun x hx => by simp at hx)⟩
  case round =>
    obtain ⟨k, hk, GK, rfl, N4, PO⟩ := hrel
    obtain ⟨p0, p1⟩ := N4.out.1.c; obtain ⟨c0, c1, c2, c3, c4, c5, -⟩ := N4.out.2.1.c
    by_cases hlt : k < l.length
    · obtain ⟨b, off, rfl, j1, j2, k1, k2⟩ := stps_at H.out hlt
      have m1 := cell_bel N4.out.2.2 k1
      have m2 := cell_bel N4.out.2.2 k2
      have w2 : (k : Int) < (l.length : Int) := by omega
      have N5 := hidI (N4.out.bel (bel_alloc wr (.cells #[.int .i64 l[k].w, .int .i64 l[k].p] 34)))
      have PN : Hid (badPause l[k] = false → ∀ x ∈ l.take (k + 1), badPause x = false) := hidI (fun hb x hx => by
        rw [List.take_add_one, List.getElem?_eq_getElem hlt, List.mem_append] at hx
        rcases hx with hx | hx
        · exact PO.out x hx
        · simp at hx; rw [hx]; exact hb)
      clear k1 k2
      generalize l[k] = x at *
      by_cases x1 : x.w = -1
      · have y1 : (x.w == -1) = true := by simp [x1]
        have y1n : (x.w != -1) = false := by simp [x1]
        by_cases x2 : x.p = 0
        · have y2 : (x.p == 0) = true := by simp [x2]
          have y2n : (x.p != 0) = false := by simp [x2]
          clear x1 x2
          go_wp2_with (go_at_call 11; refine (ksteps_at _).mono ?_; rintro e w6 ⟨rfl, hb⟩; have M6 := hidI (N5.out.bel hb); clear hb)
          go_ret
          exact ⟨rfl, M6.out.2.2⟩
        · have y2 : (x.p == 0) = false := by simp [x2]
          have y2n : (x.p != 0) = true := by simp [x2]
          by_cases x3 : 1073741824 < x.p
          · clear x1 x2
            go_wp2_with (go_at_call 11; refine (ksteps_at _).mono ?_; rintro e w6 ⟨rfl, hb⟩; have M6 := hidI (N5.out.bel hb); clear hb)
            go_ret
            exact ⟨rfl, M6.out.2.2⟩
          · have BP : Hid (badPause x = false) := hidI (by simp [badPause, x2]; omega)
            clear x1 x2
            go_wp2_with fail
            go_roundg (l.length - (k + 1))
            case measure => rw [GK.out]; omega
            case rel => exact ⟨k + 1, hlt, hidI rfl, by go_num, N5, hidI (PN.out BP.out)⟩
      · have y1 : (x.w == -1) = false := by simp [x1]
        have y1n : (x.w != -1) = true := by simp [x1]
        have BP : Hid (badPause x = false) := hidI (by simp [badPause, x1])
        clear x1
        go_wp2_with fail
        go_roundg (l.length - (k + 1))
        case measure => rw [GK.out]; omega
        case rel => exact ⟨k + 1, hlt, hidI rfl, by go_num, N5, hidI (PN.out BP.out)⟩
    · have d1 : ¬ (k : Int) < (l.length : Int) := by omega
      have PA : Hid (PauseOk l) := hidI (pause_ok (by have := PO.out; rwa [List.take_of_length_le (by omega)] at this))
      clear PO
      by_cases hn0 : now < 0
      · go_wp2_with (go_at_call 11; refine (ksteps_at _).mono ?_; rintro e w6 ⟨rfl, hb⟩; have M6 := hidI (N4.out.bel hb); clear hb)
        go_ret
        exact ⟨rfl, M6.out.2.2⟩
      by_cases hn1 : 274877906944 < now
      · go_wp2_with (go_at_call 11; refine (ksteps_at _).mono ?_; rintro e w6 ⟨rfl, hb⟩; have M6 := hidI (N4.out.bel hb); clear hb)
        go_ret
        exact ⟨rfl, M6.out.2.2⟩
      by_cases hn2 : now < t.si
      · go_wp2_with (go_at_call 11; refine (ksteps_at _).mono ?_; rintro e w6 ⟨rfl, hb⟩; have M6 := hidI (N4.out.bel hb); clear hb)
        go_ret
        exact ⟨rfl, M6.out.2.2⟩
      rw [Int.not_lt] at hn0 hn1
      by_cases hp : t.ph = 4
      · have e4 : (t.ph == 4) = true := by simp [hp]
        have e4n : (t.ph != 4) = false := by simp [hp]
        by_cases hc : t.c = g
        · have e5 : (t.c == g) = true := by simp [hc]
          have e5n : (t.c != g) = false := by simp [hc]
          clear hp hc
          go_wp2_with (go_at_call 11; refine (ksteps_at _).mono ?_; rintro e w6 ⟨rfl, hb⟩; have M6 := hidI (N4.out.bel hb); clear hb)
          go_ret
          exact ⟨rfl, M6.out.2.2⟩
        · have e5 : (t.c == g) = false := by simp [hc]
          have e5n : (t.c != g) = true := by simp [hc]
          have NA : Hid (¬ (t.ph = 4 ∧ t.c = g)) := hidI (fun h => hc h.2)
          clear hp hc
          have SET : Hid (t.si ≤ now ∧ ¬ (t.ph = 4 ∧ t.c = g)) := hidI ⟨by omega, NA.out⟩
          go_wp2_with fail
          clear p0 p1 c0 c1 c2 c3 c4 c5
          go_loopg [2, 9, 10, 58] 10 (fun gk m _ _ i wr => ∃ (k : Nat) (s : Sta) (mm : Int), k ≤ 10 ∧ Hid (gk = 10 - k) ∧ i = .int .i64 k ∧ m = .int .i64 mm ∧ Hid (LawI w wr g (.slice a l.length c) s) ∧ Hid (EndR g l t now k s mm))
          case atStart => exact ⟨0, t, now, by omega, hidI rfl, rfl, rfl, N4, hidI ⟨by omega, .inl ⟨rfl, rfl⟩⟩⟩
          case round =>
            obtain ⟨k, s, m, hk, GK, rfl, rfl, N6, ER⟩ := hrel
            obtain ⟨p0, p1⟩ := N6.out.1.c; obtain ⟨c0, c1, c2, c3, c4, c5, -⟩ := N6.out.2.1.c
            by_cases hlt : k < 10
            · have q1 : (k : Int) < 10 := by omega
              have b1 : 0 ≤ m := by have := ER.out.1; omega
              have b2 : m ≤ 1099511627776 := by have := ER.out.1; omega
              have RD := hidI (ends_round PA.out hn0 hn1 SET.out.1 SET.out.2 hlt ER.out)
              obtain ⟨r, hr⟩ : ∃ r, nextF g l s m 0 = r := ⟨_, rfl⟩
              obtain ⟨u, n⟩ := r
              have HR := hidI hr
              rw [hr] at RD
              clear hr ER
              rcases RD.out with ⟨hn, hbad⟩ | ⟨hn, hnext⟩
              · simp only at hn hbad
                have e0 : (n == 0) = false := by simp [hn]
                have e0n : (n != 0) = true := by simp [hn]
                clear RD hn
                cases hst : staOk s with
                | false =>
                  clear hbad
                  go_wp2_with (first | (go_at_call 8; refine (next_b s m 0 (by exact H.out.bel N6.out.2.2) G.out u n HR.out).mono ?_; rintro e w7 ⟨rfl, hb⟩; have N7 := hidI (N6.out.bel (bel_trans hb (bel_alloc w7 (.cells #[.string ⟨u.a.toArray⟩, .string ⟨u.c.toArray⟩, .int .i64 u.ph, .int .i64 u.st, .int .i64 u.we, .int .i64 u.si] 26)))); have U7 := hidI (show SBox _ _ u from heap_alloc_new w7 (.cells #[.string ⟨u.a.toArray⟩, .string ⟨u.c.toArray⟩, .int .i64 u.ph, .int .i64 u.st, .int .i64 u.we, .int .i64 u.si] 26)); clear p0 p1 c0 c1 c2 c3 c4 c5; obtain ⟨p0, p1⟩ := N7.out.1.c; obtain ⟨c0, c1, c2, c3, c4, c5, -⟩ := N7.out.2.1.c; obtain ⟨d0, d1, d2, d3, d4, d5, -⟩ := U7.out.c; obtain ⟨i0, i1, i2, i3, i4, i5⟩ := N7.out.2.1.cf; clear hb) | (go_at_call 12; refine (good_at _ s).mono ?_; rintro e w8 ⟨rfl, hb⟩; rw [hst]; have N8 := hidI (N7.out.bel hb); have U8 := hidI (U7.out.bel hb); clear p0 p1 c0 c1 c2 c3 c4 c5 d0 d1 d2 d3 d4 d5 i0 i1 i2 i3 i4 i5; obtain ⟨p0, p1⟩ := N8.out.1.c; obtain ⟨c0, c1, c2, c3, c4, c5, -⟩ := N8.out.2.1.c; obtain ⟨d0, d1, d2, d3, d4, d5, -⟩ := U8.out.c; clear hb))
                  go_ret
                  exact ⟨rfl, N8.out.2.2⟩
                | true =>
                  have hsp : specOk g l = false := by
                    rcases hbad with h | h
                    · rw [h] at hst; cases hst
                    · exact h
                  clear hbad
                  go_wp2_with (first | (go_at_call 8; refine (next_b s m 0 (by exact H.out.bel N6.out.2.2) G.out u n HR.out).mono ?_; rintro e w7 ⟨rfl, hb⟩; have N7 := hidI (N6.out.bel (bel_trans hb (bel_alloc w7 (.cells #[.string ⟨u.a.toArray⟩, .string ⟨u.c.toArray⟩, .int .i64 u.ph, .int .i64 u.st, .int .i64 u.we, .int .i64 u.si] 26)))); have U7 := hidI (show SBox _ _ u from heap_alloc_new w7 (.cells #[.string ⟨u.a.toArray⟩, .string ⟨u.c.toArray⟩, .int .i64 u.ph, .int .i64 u.st, .int .i64 u.we, .int .i64 u.si] 26)); clear p0 p1 c0 c1 c2 c3 c4 c5; obtain ⟨p0, p1⟩ := N7.out.1.c; obtain ⟨c0, c1, c2, c3, c4, c5, -⟩ := N7.out.2.1.c; obtain ⟨d0, d1, d2, d3, d4, d5, -⟩ := U7.out.c; obtain ⟨i0, i1, i2, i3, i4, i5⟩ := N7.out.2.1.cf; clear hb) | (go_at_call 12; refine (good_at _ s).mono ?_; rintro e w8 ⟨rfl, hb⟩; rw [hst]; have N8 := hidI (N7.out.bel hb); have U8 := hidI (U7.out.bel hb); clear p0 p1 c0 c1 c2 c3 c4 c5 d0 d1 d2 d3 d4 d5 i0 i1 i2 i3 i4 i5; obtain ⟨p0, p1⟩ := N8.out.1.c; obtain ⟨c0, c1, c2, c3, c4, c5, -⟩ := N8.out.2.1.c; obtain ⟨d0, d1, d2, d3, d4, d5, -⟩ := U8.out.c; clear hb) | (go_at_call 13; refine (goodSpec_at _ g l _ (by exact H.out.bel N8.out.2.2) G.out).mono ?_; rintro e w9 ⟨rfl, hb⟩; rw [hsp]; have N9 := hidI (N8.out.bel hb); clear hb))
                  go_ret
                  exact ⟨rfl, N9.out.2.2⟩
              · simp only at hn hnext
                have e0 : (n == 0) = true := by simp [hn]
                have e0n : (n != 0) = false := by simp [hn]
                have HN := hidI hnext
                clear RD hn hnext
                go_wp2_with (first | (go_at_call 8; refine (next_b s m 0 (by exact H.out.bel N6.out.2.2) G.out u n HR.out).mono ?_; rintro e w7 ⟨rfl, hb⟩; have N7 := hidI (N6.out.bel (bel_trans hb (bel_alloc w7 (.cells #[.string ⟨u.a.toArray⟩, .string ⟨u.c.toArray⟩, .int .i64 u.ph, .int .i64 u.st, .int .i64 u.we, .int .i64 u.si] 26)))); have U7 := hidI (show SBox _ _ u from heap_alloc_new w7 (.cells #[.string ⟨u.a.toArray⟩, .string ⟨u.c.toArray⟩, .int .i64 u.ph, .int .i64 u.st, .int .i64 u.we, .int .i64 u.si] 26)); clear p0 p1 c0 c1 c2 c3 c4 c5; obtain ⟨p0, p1⟩ := N7.out.1.c; obtain ⟨c0, c1, c2, c3, c4, c5, -⟩ := N7.out.2.1.c; obtain ⟨d0, d1, d2, d3, d4, d5, -⟩ := U7.out.c; obtain ⟨i0, i1, i2, i3, i4, i5⟩ := N7.out.2.1.cf; clear hb) | fail)
                go_roundg (10 - (k + 1))
                case measure => rw [GK.out]; omega
                case rel => exact ⟨k + 1, u, m + 1073741824, hlt, hidI rfl, by go_num, rfl, hidI (N7.out.set u), HN⟩
            · have hke : k = 10 := by omega
              subst hke
              have FIN := hidI (ends_out ER.out)
              have f1 : s.ph = 1 := by rw [FIN.out]; rfl
              have f2 : s.a = g := by rw [FIN.out]; rfl
              have f3 : s.we = 100 := by rw [FIN.out]; rfl
              rw [f1] at c2
              rw [f2] at c0
              rw [f3] at c4
              clear f1 f2 f3
              go_wp2_with (go_at_call 11; refine (ksteps_at _).mono ?_; rintro e w7 ⟨rfl, hb⟩; have M7 := hidI (N6.out.bel hb); clear hb)
              go_ret
              exact ⟨rfl, M7.out.2.2⟩
      · have e4 : (t.ph == 4) = false := by simp [hp]
        have e4n : (t.ph != 4) = true := by simp [hp]
        have NA : Hid (¬ (t.ph = 4 ∧ t.c = g)) := hidI (fun h => hp h.1)
        clear hp
        have SET : Hid (t.si ≤ now ∧ ¬ (t.ph = 4 ∧ t.c = g)) := hidI ⟨by omega, NA.out⟩
        go_wp2_with fail
        clear p0 p1 c0 c1 c2 c3 c4 c5
        go_loopg [2, 9, 10, 58] 10 (fun gk m _ _ i wr => ∃ (k : Nat) (s : Sta) (mm : Int), k ≤ 10 ∧ Hid (gk = 10 - k) ∧ i = .int .i64 k ∧ m = .int .i64 mm ∧ Hid (LawI w wr g (.slice a l.length c) s) ∧ Hid (EndR g l t now k s mm))
        case atStart => exact ⟨0, t, now, by omega, hidI rfl, rfl, rfl, N4, hidI ⟨by omega, .inl ⟨rfl, rfl⟩⟩⟩
        case round =>
          obtain ⟨k, s, m, hk, GK, rfl, rfl, N6, ER⟩ := hrel
          obtain ⟨p0, p1⟩ := N6.out.1.c; obtain ⟨c0, c1, c2, c3, c4, c5, -⟩ := N6.out.2.1.c
          by_cases hlt : k < 10
          · have q1 : (k : Int) < 10 := by omega
            have b1 : 0 ≤ m := by have := ER.out.1; omega
            have b2 : m ≤ 1099511627776 := by have := ER.out.1; omega
            have RD := hidI (ends_round PA.out hn0 hn1 SET.out.1 SET.out.2 hlt ER.out)
            obtain ⟨r, hr⟩ : ∃ r, nextF g l s m 0 = r := ⟨_, rfl⟩
            obtain ⟨u, n⟩ := r
            have HR := hidI hr
            rw [hr] at RD
            clear hr ER
            rcases RD.out with ⟨hn, hbad⟩ | ⟨hn, hnext⟩
            · simp only at hn hbad
              have e0 : (n == 0) = false := by simp [hn]
              have e0n : (n != 0) = true := by simp [hn]
              clear RD hn
              cases hst : staOk s with
              | false =>
                clear hbad
                go_wp2_with (first | (go_at_call 8; refine (next_b s m 0 (by exact H.out.bel N6.out.2.2) G.out u n HR.out).mono ?_; rintro e w7 ⟨rfl, hb⟩; have N7 := hidI (N6.out.bel (bel_trans hb (bel_alloc w7 (.cells #[.string ⟨u.a.toArray⟩, .string ⟨u.c.toArray⟩, .int .i64 u.ph, .int .i64 u.st, .int .i64 u.we, .int .i64 u.si] 26)))); have U7 := hidI (show SBox _ _ u from heap_alloc_new w7 (.cells #[.string ⟨u.a.toArray⟩, .string ⟨u.c.toArray⟩, .int .i64 u.ph, .int .i64 u.st, .int .i64 u.we, .int .i64 u.si] 26)); clear p0 p1 c0 c1 c2 c3 c4 c5; obtain ⟨p0, p1⟩ := N7.out.1.c; obtain ⟨c0, c1, c2, c3, c4, c5, -⟩ := N7.out.2.1.c; obtain ⟨d0, d1, d2, d3, d4, d5, -⟩ := U7.out.c; obtain ⟨i0, i1, i2, i3, i4, i5⟩ := N7.out.2.1.cf; clear hb) | (go_at_call 12; refine (good_at _ s).mono ?_; rintro e w8 ⟨rfl, hb⟩; rw [hst]; have N8 := hidI (N7.out.bel hb); have U8 := hidI (U7.out.bel hb); clear p0 p1 c0 c1 c2 c3 c4 c5 d0 d1 d2 d3 d4 d5 i0 i1 i2 i3 i4 i5; obtain ⟨p0, p1⟩ := N8.out.1.c; obtain ⟨c0, c1, c2, c3, c4, c5, -⟩ := N8.out.2.1.c; obtain ⟨d0, d1, d2, d3, d4, d5, -⟩ := U8.out.c; clear hb))
                go_ret
                exact ⟨rfl, N8.out.2.2⟩
              | true =>
                have hsp : specOk g l = false := by
                  rcases hbad with h | h
                  · rw [h] at hst; cases hst
                  · exact h
                clear hbad
                go_wp2_with (first | (go_at_call 8; refine (next_b s m 0 (by exact H.out.bel N6.out.2.2) G.out u n HR.out).mono ?_; rintro e w7 ⟨rfl, hb⟩; have N7 := hidI (N6.out.bel (bel_trans hb (bel_alloc w7 (.cells #[.string ⟨u.a.toArray⟩, .string ⟨u.c.toArray⟩, .int .i64 u.ph, .int .i64 u.st, .int .i64 u.we, .int .i64 u.si] 26)))); have U7 := hidI (show SBox _ _ u from heap_alloc_new w7 (.cells #[.string ⟨u.a.toArray⟩, .string ⟨u.c.toArray⟩, .int .i64 u.ph, .int .i64 u.st, .int .i64 u.we, .int .i64 u.si] 26)); clear p0 p1 c0 c1 c2 c3 c4 c5; obtain ⟨p0, p1⟩ := N7.out.1.c; obtain ⟨c0, c1, c2, c3, c4, c5, -⟩ := N7.out.2.1.c; obtain ⟨d0, d1, d2, d3, d4, d5, -⟩ := U7.out.c; obtain ⟨i0, i1, i2, i3, i4, i5⟩ := N7.out.2.1.cf; clear hb) | (go_at_call 12; refine (good_at _ s).mono ?_; rintro e w8 ⟨rfl, hb⟩; rw [hst]; have N8 := hidI (N7.out.bel hb); have U8 := hidI (U7.out.bel hb); clear p0 p1 c0 c1 c2 c3 c4 c5 d0 d1 d2 d3 d4 d5 i0 i1 i2 i3 i4 i5; obtain ⟨p0, p1⟩ := N8.out.1.c; obtain ⟨c0, c1, c2, c3, c4, c5, -⟩ := N8.out.2.1.c; obtain ⟨d0, d1, d2, d3, d4, d5, -⟩ := U8.out.c; clear hb) | (go_at_call 13; refine (goodSpec_at _ g l _ (by exact H.out.bel N8.out.2.2) G.out).mono ?_; rintro e w9 ⟨rfl, hb⟩; rw [hsp]; have N9 := hidI (N8.out.bel hb); clear hb))
                go_ret
                exact ⟨rfl, N9.out.2.2⟩
            · simp only at hn hnext
              have e0 : (n == 0) = true := by simp [hn]
              have e0n : (n != 0) = false := by simp [hn]
              have HN := hidI hnext
              clear RD hn hnext
              go_wp2_with (first | (go_at_call 8; refine (next_b s m 0 (by exact H.out.bel N6.out.2.2) G.out u n HR.out).mono ?_; rintro e w7 ⟨rfl, hb⟩; have N7 := hidI (N6.out.bel (bel_trans hb (bel_alloc w7 (.cells #[.string ⟨u.a.toArray⟩, .string ⟨u.c.toArray⟩, .int .i64 u.ph, .int .i64 u.st, .int .i64 u.we, .int .i64 u.si] 26)))); have U7 := hidI (show SBox _ _ u from heap_alloc_new w7 (.cells #[.string ⟨u.a.toArray⟩, .string ⟨u.c.toArray⟩, .int .i64 u.ph, .int .i64 u.st, .int .i64 u.we, .int .i64 u.si] 26)); clear p0 p1 c0 c1 c2 c3 c4 c5; obtain ⟨p0, p1⟩ := N7.out.1.c; obtain ⟨c0, c1, c2, c3, c4, c5, -⟩ := N7.out.2.1.c; obtain ⟨d0, d1, d2, d3, d4, d5, -⟩ := U7.out.c; obtain ⟨i0, i1, i2, i3, i4, i5⟩ := N7.out.2.1.cf; clear hb) | fail)
              go_roundg (10 - (k + 1))
              case measure => rw [GK.out]; omega
              case rel => exact ⟨k + 1, u, m + 1073741824, hlt, hidI rfl, by go_num, rfl, hidI (N7.out.set u), HN⟩
          · have hke : k = 10 := by omega
            subst hke
            have FIN := hidI (ends_out ER.out)
            have f1 : s.ph = 1 := by rw [FIN.out]; rfl
            have f2 : s.a = g := by rw [FIN.out]; rfl
            have f3 : s.we = 100 := by rw [FIN.out]; rfl
            rw [f1] at c2
            rw [f2] at c0
            rw [f3] at c4
            clear f1 f2 f3
            go_wp2_with (go_at_call 11; refine (ksteps_at _).mono ?_; rintro e w7 ⟨rfl, hb⟩; have M7 := hidI (N6.out.bel hb); clear hb)
            go_ret
            exact ⟨rfl, M7.out.2.2⟩
end Go.Proofs.Ytiaaphflbkcojaa
