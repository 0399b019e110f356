/- What underWay and Good of package stage do. -/
import Derived.Test.YtaaaogiheplbmaaHb
import Derived.Deep.DrawnRows
import Derived.Shelf.SlSortCmp.QuietGrown
set_option linter.unusedSimpArgs false
set_option linter.unusedVariables false
namespace Go.Proofs.Ytaaaogiheplbmaa
open Go.RowKit

def staEq (s t : Sta) : Bool := decide (s.a = t.a ∧ s.c = t.c ∧ s.ph = t.ph ∧ s.st = t.st ∧ s.we = t.we ∧ s.si = t.si)
theorem staEq_iff {s t : Sta} : staEq s t = true ↔ s = t := by
  obtain ⟨a, c, p, q, r, u⟩ := s
  obtain ⟨a', c', p', q', r', u'⟩ := t
  simp [staEq]
theorem eq_sta (W : World) (a c a' c' : List UInt8) (p q r u p' q' r' u' : Int) :
    (binOp .eql 30 (.agg #[.string ⟨a.toArray⟩, .string ⟨c.toArray⟩, .int .i64 p, .int .i64 q, .int .i64 r, .int .i64 u]) (.agg #[.string ⟨a'.toArray⟩, .string ⟨c'.toArray⟩, .int .i64 p', .int .i64 q', .int .i64 r', .int .i64 u'])).run Try.prog W = .ok (.bool (staEq ⟨a, c, p, q, r, u⟩ ⟨a', c', p', q', r', u'⟩)) W := by
  go_simp
  simp only [staEq]
  repeat split
  all_goals simp [*]

set_option maxRecDepth 100000 in
set_option maxHeartbeats 1000000 in
theorem underWay_at (w : World) (s : Sta) : Calls Try.prog 29 #[staV s] w fun e w' => e = .returned (.bool (underOk s)) ∧ Below w.heap.size w w' := by
  unfold staV
  by_cases h1 : s.a = s.c
  · have e1 : (s.a == s.c) = true := by simp [h1]
    have R : Hid (underOk s = false) := hidI (by simp [underOk, h1])
    clear h1
    go_enter Try.func29, Try.ntmps29
    go_wp2_with fail
    go_ret
    exact ⟨by rw [R.out]; rfl, bel_alloc _ _⟩
  · have e1 : (s.a == s.c) = false := by simp [h1]
    by_cases h2 : 0 ≤ s.st
    · by_cases h3 : s.st ≤ 8
      · have R : Hid (underOk s = isW s.we) := hidI (by simp [underOk, h1, h2, h3])
        clear h1
        go_enter Try.func29, Try.ntmps29
        go_wp2_with (go_at_call 25; refine (isWeight_at _ _).mono ?_; rintro e w1 ⟨rfl, rfl⟩)
        go_ret
        exact ⟨by rw [R.out]; rfl, bel_alloc _ _⟩
      · have R : Hid (underOk s = false) := hidI (by simp [underOk, h3])
        clear h1
        go_enter Try.func29, Try.ntmps29
        go_wp2_with fail
        go_ret
        exact ⟨by rw [R.out]; rfl, bel_alloc _ _⟩
    · have R : Hid (underOk s = false) := hidI (by simp [underOk, h2])
      clear h1
      go_enter Try.func29, Try.ntmps29
      go_wp2_with fail
      go_ret
      exact ⟨by rw [R.out]; rfl, bel_alloc _ _⟩

theorem cell_gr {w : World} {a : Addr} {v : Value} (h : w.cell? a = some v) : ∀ n os, (Go.Sort.grow (w.drewN n) os).cell? a = some v := cell_grown (World.block_lt_of_cell? w _ h) h
theorem bel_gr (w : World) (n : Nat) (os : Array Obj) : Below w.heap.size w (Go.Sort.grow (w.drewN n) os) := by
  refine ⟨rfl, rfl, rfl, by simp [Go.Sort.grow, World.drewN], fun k hk => ?_⟩
  show (w.heap ++ os)[k]? = w.heap[k]?
  rw [Array.getElem?_append_left hk]
theorem alloc_gr (w : World) (o : Obj) : ∃ q os, w.alloc o = Go.Sort.grow (w.drewN q) os := ⟨0, _, by rw [Go.Sort.alloc_eq_grow]; rfl⟩
theorem healthy_gr (W : World) (n : Nat) (os : Array Obj) (g : List UInt8) : Calls Try.prog 22 #[.string ⟨g.toArray⟩] (Go.Sort.grow (W.drewN n) os) fun e w'' => e = .returned (.agg #[.string ⟨g.toArray⟩, .string ⟨g.toArray⟩, .int .i64 1, .int .i64 0, .int .i64 100, .int .i64 0]) ∧ ∃ p : GrownBy, w'' = Go.Sort.grow (W.drewN p.n) p.os :=
  Calls.grown_of ((healthy_at _ g).mono fun e w' h => ⟨h.1, by rw [h.2]; exact alloc_gr _ _⟩)
theorem aborted_gr (W : World) (n : Nat) (os : Array Obj) (a c : List UInt8) : Calls Try.prog 28 #[.string ⟨a.toArray⟩, .string ⟨c.toArray⟩] (Go.Sort.grow (W.drewN n) os) fun e w'' => e = .returned (.agg #[.string ⟨a.toArray⟩, .string ⟨c.toArray⟩, .int .i64 4, .int .i64 0, .int .i64 0, .int .i64 0]) ∧ ∃ p : GrownBy, w'' = Go.Sort.grow (W.drewN p.n) p.os :=
  Calls.grown_of ((aborted_at _ a c).mono fun e w' h => ⟨h.1, by rw [h.2]; exact alloc_gr _ _⟩)
attribute [local go_sem ↓] Go.wp_at_zero Go.wp_at_succ eq_sta
set_option maxRecDepth 100000 in
set_option maxHeartbeats 1000000 in
theorem good_at (w : World) (s : Sta) : Calls Try.prog 14 #[staV s] w fun e w' => e = .returned (.bool (staOk s)) ∧ Below w.heap.size w w' := by
  unfold staV
  by_cases h1 : s.a = []
  · have e1 : s.a.isEmpty = true := by simp [h1]
    have R : Hid (staOk s = false) := hidI (by simp [staOk, h1])
    clear h1
    go_enter Try.func14, Try.ntmps14
    go_wp2_with fail
    go_ret
    exact ⟨by rw [R.out]; rfl, bel_alloc _ _⟩
  have e1 : s.a.isEmpty = false := by simp [h1]
  by_cases h2 : s.c = []
  · have e2 : s.c.isEmpty = true := by simp [h2]
    have R : Hid (staOk s = false) := hidI (by simp [staOk, h2])
    clear h1 h2
    go_enter Try.func14, Try.ntmps14
    go_wp2_with fail
    go_ret
    exact ⟨by rw [R.out]; rfl, bel_alloc _ _⟩
  have e2 : s.c.isEmpty = false := by simp [h2]
  by_cases p1 : s.ph = 1
  · have e3 : (s.ph == 1) = true := by simp [p1]
    have R : Hid (staOk s = staEq s (healthyS s.a)) := hidI (by
      rw [Bool.eq_iff_iff, staEq_iff]
      constructor
      · intro h
        simp [staOk, h1, h2, p1] at h
        obtain ⟨a, c, p, q, r, u⟩ := s
        simp at h p1
        simp [healthyS, *]
      · intro h
        rw [h]; exact healthy_ok h1)
    clear h1 h2 p1
    go_enter Try.func14, Try.ntmps14
    obtain ⟨c0, c1, c2, c3, c4, c5, -⟩ := SBox.c (w := (w.alloc (.cells #[.string ⟨s.a.toArray⟩, .string ⟨s.c.toArray⟩, .int .i64 s.ph, .int .i64 s.st, .int .i64 s.we, .int .i64 s.si] 30))) (s := s) (heap_alloc_new w _)
    have s0 := cell_gr c0
    have s1 := cell_gr c1
    have s2 := cell_gr c2
    have s3 := cell_gr c3
    have s4 := cell_gr c4
    have s5 := cell_gr c5
    clear c0 c1 c2 c3 c4 c5
    have hmix : Try.prog.follows .mixedOrders = true := by kernel_rfl
    go_wp2_with fail
    refine wp_region_quiet_grown (by assumption) (by kernel_rfl) ?_
    repeat (first | go_big_quiet_step ((go_at_call 22; exact healthy_gr _ _ _ _)) | quiet_step ((go_at_call 22; exact healthy_gr _ _ _ _)))
    refine wpQuiet_nil ?_
    intro _ hw'
    obtain ⟨⟨nq, osq⟩, hw''⟩ := hw'
    subst hw''
    go_wp2_with fail
    go_ret
    exact ⟨by rw [R.out]; rfl, bel_trans (bel_alloc _ _) (bel_gr _ _ _)⟩
  have e3 : (s.ph == 1) = false := by simp [p1]
  by_cases p4 : s.ph = 4
  · have e4 : (s.ph == 4) = true := by simp [p4]
    by_cases h3 : s.a = s.c
    · have e5 : (s.a == s.c) = true := by simp [h3]
      have R : Hid (staOk s = false) := hidI (by simp [staOk, h1, h2, p4, h3])
      clear h1 h2 p1 p4 h3
      go_enter Try.func14, Try.ntmps14
      obtain ⟨c0, c1, c2, c3, c4, c5, -⟩ := SBox.c (w := (w.alloc (.cells #[.string ⟨s.a.toArray⟩, .string ⟨s.c.toArray⟩, .int .i64 s.ph, .int .i64 s.st, .int .i64 s.we, .int .i64 s.si] 30))) (s := s) (heap_alloc_new w _)
      have s0 := cell_gr c0
      have s1 := cell_gr c1
      have s2 := cell_gr c2
      have s3 := cell_gr c3
      have s4 := cell_gr c4
      have s5 := cell_gr c5
      clear c0 c1 c2 c3 c4 c5
      have hmix : Try.prog.follows .mixedOrders = true := by kernel_rfl
      go_wp2_with fail
      refine wp_region_quiet_grown (by assumption) (by kernel_rfl) ?_
      repeat (first | go_big_quiet_step ((fail)) | quiet_step ((fail)))
      refine wpQuiet_nil ?_
      intro _ hw'
      obtain ⟨⟨nq, osq⟩, hw''⟩ := hw'
      subst hw''
      go_wp2_with fail
      go_ret
      exact ⟨by rw [R.out]; rfl, bel_trans (bel_alloc _ _) (bel_gr _ _ _)⟩
    · have e5 : (s.a == s.c) = false := by simp [h3]
      have R : Hid (staOk s = staEq s (abortedS s.a s.c)) := hidI (by
        rw [Bool.eq_iff_iff, staEq_iff]
        constructor
        · intro h
          simp [staOk, h1, h2, p4] at h
          obtain ⟨a, c, p, q, r, u⟩ := s
          simp at h p4
          simp [abortedS, *]
        · intro h
          rw [h]; exact aborted_ok h1 h2 h3)
      clear h1 h2 p1 p4 h3
      go_enter Try.func14, Try.ntmps14
      obtain ⟨c0, c1, c2, c3, c4, c5, -⟩ := SBox.c (w := (w.alloc (.cells #[.string ⟨s.a.toArray⟩, .string ⟨s.c.toArray⟩, .int .i64 s.ph, .int .i64 s.st, .int .i64 s.we, .int .i64 s.si] 30))) (s := s) (heap_alloc_new w _)
      have s0 := cell_gr c0
      have s1 := cell_gr c1
      have s2 := cell_gr c2
      have s3 := cell_gr c3
      have s4 := cell_gr c4
      have s5 := cell_gr c5
      clear c0 c1 c2 c3 c4 c5
      have hmix : Try.prog.follows .mixedOrders = true := by kernel_rfl
      go_wp2_with fail
      refine wp_region_quiet_grown (by assumption) (by kernel_rfl) ?_
      repeat (first | go_big_quiet_step ((go_at_call 28; exact aborted_gr _ _ _ _ _)) | quiet_step ((go_at_call 28; exact aborted_gr _ _ _ _ _)))
      refine wpQuiet_nil ?_
      intro _ hw'
      obtain ⟨⟨nq, osq⟩, hw''⟩ := hw'
      subst hw''
      go_wp2_with fail
      go_ret
      exact ⟨by rw [R.out]; rfl, bel_trans (bel_alloc _ _) (bel_gr _ _ _)⟩
  have e4 : (s.ph == 4) = false := by simp [p4]
  by_cases p2 : s.ph = 2
  · have e5 : (s.ph == 2) = true := by simp [p2]
    have R : Hid (staOk s = (underOk s && decide (s.si = 0))) := hidI (by simp [staOk, h1, h2, p2])
    clear h1 h2 p1 p4 p2
    cases hu : underOk s with
    | true =>
      go_enter Try.func14, Try.ntmps14
      go_wp2_with (go_at_call 29; refine (underWay_at _ s).mono ?_; rintro e w1 ⟨rfl, hb⟩; rw [hu]; obtain ⟨c0, c1, c2, c3, c4, c5, -⟩ := SBox.c (SBox.bel (s := s) (heap_alloc_new w _) hb))
      go_ret
      exact ⟨by rw [R.out, hu]; simp [Bool.beq_eq_decide_eq], bel_trans (bel_alloc _ _) hb⟩
    | false =>
      go_enter Try.func14, Try.ntmps14
      go_wp2_with (go_at_call 29; refine (underWay_at _ s).mono ?_; rintro e w1 ⟨rfl, hb⟩; rw [hu])
      go_ret
      exact ⟨by rw [R.out, hu]; rfl, bel_trans (bel_alloc _ _) hb⟩
  have e5 : (s.ph == 2) = false := by simp [p2]
  by_cases p3 : s.ph = 3
  · have e6 : (s.ph == 3) = true := by simp [p3]
    have R : Hid (staOk s = (underOk s && isT s.si)) := hidI (by simp [staOk, h1, h2, p3])
    clear h1 h2 p1 p4 p2 p3
    cases hu : underOk s with
    | true =>
      go_enter Try.func14, Try.ntmps14
      go_wp2_with (first | (go_at_call 24; refine (isTime_at _ _).mono ?_; rintro e w2 ⟨rfl, rfl⟩) | (go_at_call 29; refine (underWay_at _ s).mono ?_; rintro e w1 ⟨rfl, hb⟩; rw [hu]; obtain ⟨c0, c1, c2, c3, c4, c5, -⟩ := SBox.c (SBox.bel (s := s) (heap_alloc_new w _) hb)))
      go_ret
      exact ⟨by rw [R.out, hu]; rfl, bel_trans (bel_alloc _ _) hb⟩
    | false =>
      go_enter Try.func14, Try.ntmps14
      go_wp2_with (go_at_call 29; refine (underWay_at _ s).mono ?_; rintro e w1 ⟨rfl, hb⟩; rw [hu])
      go_ret
      exact ⟨by rw [R.out, hu]; rfl, bel_trans (bel_alloc _ _) hb⟩
  · have e6 : (s.ph == 3) = false := by simp [p3]
    have R : Hid (staOk s = false) := hidI (by simp [staOk, h1, h2, p1, p2, p3, p4])
    clear h1 h2 p1 p4 p2 p3
    go_enter Try.func14, Try.ntmps14
    go_wp2_with fail
    go_ret
    exact ⟨by rw [R.out]; rfl, bel_alloc _ _⟩
end Go.Proofs.Ytaaaogiheplbmaa
