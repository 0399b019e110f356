/- Steps and statuses in memory; what isTime, isWeight, GoodStep, healthy, begun, aborted, underWay and Good of package stage do. -/
import Derived.Test.YtaaaogiheplbmaaHa
import Derived.Deep.QuietTactic
import Derived.BigQuiet
set_option linter.unusedSimpArgs false
set_option linter.unusedVariables false
namespace Go.Proofs.Ytaaaogiheplbmaa
open Go.RowKit

def stpV (x : Stp) : Value := .agg #[.int .i64 x.w, .int .i64 x.p]
def staV (s : Sta) : Value := .agg #[.string ⟨s.a.toArray⟩, .string ⟨s.c.toArray⟩, .int .i64 s.ph, .int .i64 s.st, .int .i64 s.we, .int .i64 s.si]
/- A status in a block. -/
def SBox (w : World) (g : Nat) (s : Sta) : Prop := w.heap[g]? = some (.cells #[.string ⟨s.a.toArray⟩, .string ⟨s.c.toArray⟩, .int .i64 s.ph, .int .i64 s.st, .int .i64 s.we, .int .i64 s.si] 30)

theorem SBox.c {w : World} {g : Nat} {s : Sta} (h : SBox w g s) :
    w.cell? ⟨g, 0, none⟩ = some (.string ⟨s.a.toArray⟩) ∧ w.cell? ⟨g, 1, none⟩ = some (.string ⟨s.c.toArray⟩) ∧ w.cell? ⟨g, 2, none⟩ = some (.int .i64 s.ph) ∧ w.cell? ⟨g, 3, none⟩ = some (.int .i64 s.st) ∧ w.cell? ⟨g, 4, none⟩ = some (.int .i64 s.we) ∧ w.cell? ⟨g, 5, none⟩ = some (.int .i64 s.si) ∧
    w.frozen? ⟨g, 0, none⟩ = false ∧ w.frozen? ⟨g, 1, none⟩ = false ∧ w.frozen? ⟨g, 2, none⟩ = false ∧ w.frozen? ⟨g, 3, none⟩ = false ∧ w.frozen? ⟨g, 4, none⟩ = false ∧ w.frozen? ⟨g, 5, none⟩ = false := by
  unfold SBox at h
  refine ⟨?_, ?_, ?_, ?_, ?_, ?_, ?_, ?_, ?_, ?_, ?_, ?_⟩ <;> simp [World.cell?, World.frozen?, h]
theorem SBox.bel {w w' : World} {g : Nat} {s : Sta} (h : SBox w g s) (hb : Below w.heap.size w w') : SBox w' g s := (hb.block g (Array.getElem?_eq_some_iff.1 h).1).trans h

set_option maxRecDepth 100000 in
theorem isTime_at (w : World) (n : Int) : Calls Try.prog 24 #[.int .i64 n] w fun e w' => e = .returned (.bool (isT n)) ∧ w' = w := by
  by_cases h : 0 ≤ n
  · go_enter Try.func24, Try.ntmps24
    go_wp2_with fail
    go_ret
    exact ⟨by simp [isT, h], rfl⟩
  · go_enter Try.func24, Try.ntmps24
    go_wp2_with fail
    go_ret
    exact ⟨by rw [isT, decide_eq_false (by omega)]; rfl, rfl⟩
set_option maxRecDepth 100000 in
theorem isWeight_at (w : World) (n : Int) : Calls Try.prog 25 #[.int .i64 n] w fun e w' => e = .returned (.bool (isW n)) ∧ w' = w := by
  by_cases h : 0 ≤ n
  · go_enter Try.func25, Try.ntmps25
    go_wp2_with fail
    go_ret
    exact ⟨by simp [isW, h], rfl⟩
  · go_enter Try.func25, Try.ntmps25
    go_wp2_with fail
    go_ret
    exact ⟨by rw [isW, decide_eq_false (by omega)]; rfl, rfl⟩
set_option maxRecDepth 100000 in
theorem goodStep_at (w : World) (x : Stp) : Calls Try.prog 10 #[stpV x] w fun e w' => e = .returned (.bool (stepOk x)) ∧ Below w.heap.size w w' := by
  unfold stpV
  by_cases h : x.w = -1
  · have e1 : (x.w == -1) = true := by simp [h]
    have HW := hidI h
    clear h
    go_enter Try.func10, Try.ntmps10
    go_wp2_with (go_at_call 24; refine (isTime_at _ _).mono ?_; rintro e w1 ⟨rfl, rfl⟩)
    go_ret
    exact ⟨by rw [stepOk, if_pos HW.out]; rfl, bel_alloc _ _⟩
  · have e1 : (x.w == -1) = false := by simp [h]
    have HW := hidI h
    clear h
    cases hw : isW x.w with
    | true =>
      go_enter Try.func10, Try.ntmps10
      go_wp2_with (go_at_call 25; refine (isWeight_at _ _).mono ?_; rintro e w1 ⟨rfl, rfl⟩; rw [hw])
      go_ret
      exact ⟨by rw [stepOk, if_neg HW.out, hw]; simp [Bool.beq_eq_decide_eq], bel_alloc _ _⟩
    | false =>
      go_enter Try.func10, Try.ntmps10
      go_wp2_with (go_at_call 25; refine (isWeight_at _ _).mono ?_; rintro e w1 ⟨rfl, rfl⟩; rw [hw])
      go_ret
      exact ⟨by rw [stepOk, if_neg HW.out, hw]; rfl, bel_alloc _ _⟩
set_option maxRecDepth 100000 in
theorem badStep_at (w : World) (x : Stp) : Calls Try.prog 27 #[stpV x] w fun e w' => e = .returned (.bool (!stepOk x)) ∧ Below w.heap.size w w' := by
  unfold stpV
  go_enter Try.func27, Try.ntmps27
  go_wp2_with (go_at_call 10; refine (goodStep_at _ x).mono ?_; rintro e w1 ⟨rfl, hb⟩)
  go_ret
  exact ⟨rfl, bel_trans (bel_alloc _ _) hb⟩
set_option maxRecDepth 100000 in
theorem healthy_at (w : World) (g : List UInt8) : Calls Try.prog 22 #[.string ⟨g.toArray⟩] w fun e w' => e = .returned (staV (healthyS g)) ∧ w' = w.alloc (.cells #[.string ⟨g.toArray⟩, .string ⟨g.toArray⟩, .int .i64 1, .int .i64 0, .int .i64 100, .int .i64 0] 30) := by
  go_enter Try.func22, Try.ntmps22
  go_wp2_with fail
  obtain ⟨c0, c1, c2, c3, c4, c5, -⟩ := SBox.c (s := healthyS g) (heap_alloc_new w (.cells #[_, _, _, _, _, _] 30))
  refine bodyPost_ret (v := staV (healthyS g)) ?_ rfl ⟨rfl, rfl⟩
  simp only [healthyS, begunS, abortedS] at c0 c1 c2 c3 c4 c5
  simp [results, Try.results22, go_sem, c0, c1, c2, c3, c4, c5, staV, healthyS, begunS, abortedS]
set_option maxRecDepth 100000 in
theorem begun_at (w : World) (a c : List UInt8) : Calls Try.prog 37 #[.string ⟨a.toArray⟩, .string ⟨c.toArray⟩] w fun e w' => e = .returned (staV (begunS a c)) ∧ w' = w.alloc (.cells #[.string ⟨a.toArray⟩, .string ⟨c.toArray⟩, .int .i64 2, .int .i64 0, .int .i64 0, .int .i64 0] 30) := by
  go_enter Try.func37, Try.ntmps37
  go_wp2_with fail
  obtain ⟨c0, c1, c2, c3, c4, c5, -⟩ := SBox.c (s := begunS a c) (heap_alloc_new w (.cells #[_, _, _, _, _, _] 30))
  refine bodyPost_ret (v := staV (begunS a c)) ?_ rfl ⟨rfl, rfl⟩
  simp only [healthyS, begunS, abortedS] at c0 c1 c2 c3 c4 c5
  simp [results, Try.results37, go_sem, c0, c1, c2, c3, c4, c5, staV, healthyS, begunS, abortedS]
set_option maxRecDepth 100000 in
theorem aborted_at (w : World) (a c : List UInt8) : Calls Try.prog 28 #[.string ⟨a.toArray⟩, .string ⟨c.toArray⟩] w fun e w' => e = .returned (staV (abortedS a c)) ∧ w' = w.alloc (.cells #[.string ⟨a.toArray⟩, .string ⟨c.toArray⟩, .int .i64 4, .int .i64 0, .int .i64 0, .int .i64 0] 30) := by
  go_enter Try.func28, Try.ntmps28
  go_wp2_with fail
  obtain ⟨c0, c1, c2, c3, c4, c5, -⟩ := SBox.c (s := abortedS a c) (heap_alloc_new w (.cells #[_, _, _, _, _, _] 30))
  refine bodyPost_ret (v := staV (abortedS a c)) ?_ rfl ⟨rfl, rfl⟩
  simp only [healthyS, begunS, abortedS] at c0 c1 c2 c3 c4 c5
  simp [results, Try.results28, go_sem, c0, c1, c2, c3, c4, c5, staV, healthyS, begunS, abortedS]
end Go.Proofs.Ytaaaogiheplbmaa
