/- What readSteps of package stage does. -/
import Derived.Test.YtaaaogiheplbmaaIb
import Derived.Laws.MakeOwn
set_option linter.unusedSimpArgs false
set_option linter.unusedVariables false
namespace Go.Proofs.Ytaaaogiheplbmaa
open Go.RowKit

def allF : List V → Option (List Stp)
  | [] => some []
  | x :: l => match readStepF x, allF l with
    | some a, some b => some (a :: b)
    | _, _ => none
theorem infoStp : ∃ j, Try.prog.info? 32 = some j ∧ j.zero = some (.agg #[.int .i64 0, .int .i64 0]) ∧ j.size = 2 ∧ j.bytes = 16 := by
  have h : (Try.prog.info? 32).map (fun i => (i.zero, i.size, i.bytes)) = some (some (.agg #[.int .i64 0, .int .i64 0]), 2, 16) := by kernel_rfl
  cases e : Try.prog.info? 32 with
  | none => rw [e] at h; cases h
  | some j => rw [e] at h; simp at h; exact ⟨j, rfl, h.1, h.2.1, h.2.2⟩
def readStepsF (t : V) : Option (List Stp) := if t.kind ≠ 4 ∨ 8 < t.l.length then none else allF t.l
theorem allF_step {l : List V} {k : Nat} (h : k < l.length) {xs : List Stp} (hx : allF (l.take k) = some xs) {x : Stp} (hr : readStepF l[k] = some x) : allF (l.take (k + 1)) = some (xs ++ [x]) := by
  induction l generalizing k xs with
  | nil => simp at h
  | cons y l ih =>
    cases k with
    | zero =>
      simp at hr hx ⊢
      simp [allF] at hx
      subst hx
      simp [allF, hr]
    | succ k =>
      simp only [List.take_succ_cons, allF] at hx ⊢
      simp only [List.getElem_cons_succ] at hr
      cases hy : readStepF y with
      | none => rw [hy] at hx; simp at hx
      | some a =>
        rw [hy] at hx
        cases hq : allF (l.take k) with
        | none => rw [hq] at hx; simp at hx
        | some b =>
          rw [hq] at hx
          simp at hx
          subst hx
          rw [ih (by simpa using h) hq hr]
          simp
theorem allF_none {l : List V} {k : Nat} (h : k < l.length) (hr : readStepF l[k] = none) : allF l = none := by
  induction l generalizing k with
  | nil => simp at h
  | cons y l ih =>
    cases k with
    | zero => simp at hr; simp [allF, hr]
    | succ k =>
      have := ih (k := k) (by simpa using h) (by simpa using hr)
      simp only [allF, this]
      cases readStepF y <;> rfl
/- A row of steps that is being laid. -/
def Row2 (w : World) (R n : Nat) (xs : List Stp) : Prop := ∃ cs : Array Value, w.heap[R]? = some (.cells cs 32) ∧ cs.size = n * 2 ∧ ∀ i x, xs[i]? = some x → cs[i * 2]? = some (.int .i64 x.w) ∧ cs[i * 2 + 1]? = some (.int .i64 x.p)
theorem Row2.bel {w w' : World} {R n : Nat} {xs : List Stp} (h : Row2 w R n xs) (hb : Below w.heap.size w w') : Row2 w' R n xs := by
  obtain ⟨cs, h1, h2, h3⟩ := h
  exact ⟨cs, (hb.block R (Array.getElem?_eq_some_iff.1 h1).1).trans h1, h2, h3⟩
theorem Row2.at {w : World} {R n : Nat} {xs : List Stp} (h : Row2 w R n xs) {k : Nat} (hk : k < n) : ∃ u0 u1, w.cell? ⟨R, k * 2, none⟩ = some u0 ∧ w.cell? ⟨R, k * 2 + 1, none⟩ = some u1 ∧ w.frozen? ⟨R, k * 2, none⟩ = false ∧ w.frozen? ⟨R, k * 2 + 1, none⟩ = false := by
  obtain ⟨cs, h1, h2, h3⟩ := h
  refine ⟨cs[k * 2]'(by omega), cs[k * 2 + 1]'(by omega), ?_, ?_, ?_, ?_⟩
  · simp [World.cell?, h1, Array.getElem?_eq_getElem (show k * 2 < cs.size by omega)]
  · simp [World.cell?, h1, Array.getElem?_eq_getElem (show k * 2 + 1 < cs.size by omega)]
  · simp [World.frozen?, h1]
  · simp [World.frozen?, h1]
theorem Row2.push {w : World} {R n : Nat} {xs : List Stp} (h : Row2 w R n xs) (hk : xs.length < n) (x : Stp) : Row2 ((w.setCell ⟨R, xs.length * 2, none⟩ (.int .i64 x.w)).setCell ⟨R, xs.length * 2 + 1, none⟩ (.int .i64 x.p)) R n (xs ++ [x]) := by
  obtain ⟨cs, h1, h2, h3⟩ := h
  refine ⟨_, heap_set (heap_set h1 _ _) _ _, by simpa using h2, fun i y hy => ?_⟩
  by_cases hi : i < xs.length
  · rw [List.getElem?_append_left hi] at hy
    obtain ⟨q1, q2⟩ := h3 i y hy
    rw [Array.getElem?_setIfInBounds_ne (by omega), Array.getElem?_setIfInBounds_ne (by omega), Array.getElem?_setIfInBounds_ne (by omega), Array.getElem?_setIfInBounds_ne (by omega)]
    exact ⟨q1, q2⟩
  · have hi2 : i = xs.length := by
      have := (List.getElem?_eq_some_iff.1 hy).1
      simp at this; omega
    subst hi2
    simp at hy
    subst hy
    refine ⟨?_, ?_⟩
    · rw [Array.getElem?_setIfInBounds_ne (by omega)]
      simp [Array.getElem?_setIfInBounds, h2]; omega
    · simp [Array.getElem?_setIfInBounds, h2]; omega
theorem Row2.done {w : World} {R n : Nat} {xs : List Stp} (h : Row2 w R n xs) (hn : xs.length = n) (h8 : n ≤ 8) : StpsAre w xs (.slice (some ⟨R, 0, none⟩) n n) := by
  obtain ⟨cs, h1, h2, h3⟩ := h
  refine ⟨by omega, .inr ⟨R, 0, n, by rw [hn], by omega, by omega, fun i x hx => ?_⟩⟩
  obtain ⟨q1, q2⟩ := h3 i x hx
  exact ⟨by simp [World.cell?, h1, q1], by simp [World.cell?, h1, q2]⟩
def RSI (w wr : World) (t : V) (a1 b1 : Option Addr) (c1 d1 : Nat) (xs : List Stp) : Prop := BoxIs wr w.heap.size (.int .i64 t.kind) (.int .i64 t.n) (.string ⟨t.s.toArray⟩) (.slice a1 t.keys.length c1) (.slice b1 t.l.length d1) ∧ Row2 wr (w.heap.size + 1) t.l.length xs ∧ Below w.heap.size w wr
theorem RSI.bel {w wr w' : World} {t : V} {a1 b1 : Option Addr} {c1 d1 : Nat} {xs : List Stp} (h : RSI w wr t a1 b1 c1 d1 xs) (hb : Below wr.heap.size wr w') : RSI w w' t a1 b1 c1 d1 xs := ⟨box_bel hb h.1, h.2.1.bel hb, bel_trans h.2.2 hb⟩

set_option maxRecDepth 100000 in
set_option maxHeartbeats 4000000 in
theorem readSteps_good (w : World) (ok : Nat → Prop) (t : V) (v : Value) (h : In w ok t v) (hk : t.kind = 4) (h8 : t.l.length ≤ 8) :
    Calls Try.prog 19 #[v] w fun e w' => ∃ sl, e = .returned (.tuple #[sl, .bool (allF t.l).isSome]) ∧ (∀ l, allF t.l = some l → StpsAre w' l sl) ∧ Below w.heap.size w w' := by
  have H := hidI h
  obtain ⟨a1, b1, c1, d1, rfl⟩ := h.form
  have e1 : (t.kind == 4) = true := by simp [hk]
  have e1n : (t.kind != 4) = false := by simp [hk]
  have e2 : ¬ 8 < (t.l.length : Int) := by omega
  have e3 : ¬ (t.l.length : Int) < 0 := by omega
  obtain ⟨i0, hi, hz0, hz1, hz2⟩ := infoStp
  have hmk : (Instr.makeSlice 26 (.int .i64 (t.l.length : Int)) (.int .i64 (t.l.length : Int))).run Try.prog (w.alloc (.cells #[.int .i64 t.kind, .int .i64 t.n, .string ⟨t.s.toArray⟩, .slice a1 t.keys.length c1, .slice b1 t.l.length d1] 25)) = .ok (.slice (some ⟨w.heap.size + 1, 0, none⟩) t.l.length t.l.length) ((w.alloc (.cells #[.int .i64 t.kind, .int .i64 t.n, .string ⟨t.s.toArray⟩, .slice a1 t.keys.length c1, .slice b1 t.l.length d1] 25)).alloc (.cells (madeCells #[.int .i64 0, .int .i64 0] (t.l.length * 2)) 32)) := by
    have k := run_make (P := Try.prog) (w.alloc (.cells #[.int .i64 t.kind, .int .i64 t.n, .string ⟨t.s.toArray⟩, .slice a1 t.keys.length c1, .slice b1 t.l.length d1] 25)) 26 32 i0 _ Try.underlying26 hi hz0 .i64 .i64 (t.l.length : Int) (t.l.length : Int) (by omega) (Int.le_refl _) (by rw [hz2]; omega) (by omega)
    rw [hz1] at k
    simpa [Value.cells] using k
  have K0 : Hid (RSI w ((w.alloc (.cells #[.int .i64 t.kind, .int .i64 t.n, .string ⟨t.s.toArray⟩, .slice a1 t.keys.length c1, .slice b1 t.l.length d1] 25)).alloc (.cells (madeCells #[.int .i64 0, .int .i64 0] (t.l.length * 2)) 32)) t a1 b1 c1 d1 []) := hidI ⟨h2a w _ _, ⟨_, h2b w _ _, by simp [madeCells], fun i x hx => by simp at hx⟩, bel_trans (bel_alloc _ _) (bel_alloc _ _)⟩
  have H8 := hidI h8
  clear h hk hi hz0 hz1 hz2
  go_enter Try.func19, Try.ntmps19
  go_wp2_with fail
  clear hmk
  go_loopg [5, 6, 7, 8, 25] t.l.length (fun gk _ _ _ _ i wr => ∃ (k : Nat) (xs : List Stp), k ≤ t.l.length ∧ Hid (gk = t.l.length - k) ∧ i = .int .i64 k ∧ Hid (allF (t.l.take k) = some xs ∧ xs.length = k) ∧ Hid (RSI w wr t a1 b1 c1 d1 xs))
  case atStart => exact ⟨0, [], Nat.zero_le _, hidI rfl, rfl, hidI ⟨rfl, rfl⟩, K0⟩
  case round =>
    obtain ⟨k, xs, hk, GK, rfl, AX, K1⟩ := hrel
    by_cases hlt : k < t.l.length
    · obtain ⟨b, off, a5, c5, a6, c6, rfl, j1, j2, g0, g1, g2, g3, g4, g5⟩ := (H.out.bel K1.out.2.2).item hlt
      have w1 : (k : Int) < (t.l.length : Int) := by omega
      have w2 : (0 : Int) ≤ (k : Int) := by omega
      have HI := hidI (g5.bel (bel_alloc wr (.cells #[.int .i64 t.l[k].kind, .int .i64 t.l[k].n, .string ⟨t.l[k].s.toArray⟩, .slice a5 t.l[k].keys.length c5, .slice a6 t.l[k].l.length c6] 25)))
      have K2 := hidI (K1.out.bel (bel_alloc wr (.cells #[.int .i64 t.l[k].kind, .int .i64 t.l[k].n, .string ⟨t.l[k].s.toArray⟩, .slice a5 t.l[k].keys.length c5, .slice a6 t.l[k].l.length c6] 25)))
      have ST := hidI (fun x hx => allF_step hlt AX.out.1 (x := x) hx)
      have SN := hidI (fun hx => allF_none (l := t.l) hlt hx)
      clear g5
      cases hr : readStepF t.l[k] with
      | none =>
        go_wp2_with (go_at_call 33; refine (readStep_at _ ok t.l[k] _ (by exact HI.out)).mono ?_; rintro e w5 ⟨st, rfl, hst, hb⟩; rw [hr]; unfold stpV; have K3 := hidI (K2.out.bel (bel_trans hb (bel_alloc w5 (.cells #[.int .i64 st.w, .int .i64 st.p] 32)))); clear hb hst)
        refine bodyPost_ret (v := .tuple #[.slice none 0 0, .bool false]) (by simp [results, Try.results19, go_sem]) rfl ?_
        exact ⟨.slice none 0 0, by rw [SN.out hr]; rfl, fun l hl => (by rw [SN.out hr] at hl; cases hl), K3.out.2.2⟩
      | some z =>
        go_wp2_with (go_at_call 33; refine (readStep_at _ ok t.l[k] _ (by exact HI.out)).mono ?_; rintro e w5 ⟨st, rfl, hst, hb⟩; rw [hr]; unfold stpV; have EZ := hidI (hst z hr); have K3 := hidI (K2.out.bel (bel_trans hb (bel_alloc w5 (.cells #[.int .i64 st.w, .int .i64 st.p] 32)))); obtain ⟨u0, u1, r0, r1, r2, r3⟩ := K3.out.2.1.at hlt; clear hb hst)
        go_roundg (t.l.length - (k + 1))
        case measure => rw [GK.out]; omega
        case rel => exact ⟨k + 1, xs ++ [z], hlt, hidI rfl, by go_num, hidI ⟨ST.out z hr, by simp [AX.out.2]⟩, hidI ⟨K3.out.1.grown (gb_set (gb_set (gb_refl _ _) _ _) _ _) (by simp), (by
          have q := K3.out.2.1.push (by have := AX.out.2; omega) st
          rw [AX.out.2] at q
          rw [← EZ.out]
          exact q), bel_set (bel_set K3.out.2.2 (by omega) _ _) (by omega) _ _⟩⟩
    · have d1' : ¬ (k : Int) < (t.l.length : Int) := by omega
      have hke : k = t.l.length := by omega
      have FIN : Hid (allF t.l = some xs ∧ xs.length = t.l.length) := hidI (by have := AX.out; rwa [hke, List.take_of_length_le (Nat.le_refl _)] at this)
      clear hke
      go_wp2_with fail
      refine bodyPost_ret (v := .tuple #[.slice (some ⟨w.heap.size + 1, 0, none⟩) t.l.length t.l.length, .bool true]) (by simp [results, Try.results19, go_sem]) rfl ?_
      exact ⟨.slice (some ⟨w.heap.size + 1, 0, none⟩) t.l.length t.l.length, by rw [FIN.out.1]; rfl, fun l hl => (by rw [FIN.out.1] at hl; cases hl; exact K1.out.2.1.done FIN.out.2 H8.out), K1.out.2.2⟩
end Go.Proofs.Ytaaaogiheplbmaa
