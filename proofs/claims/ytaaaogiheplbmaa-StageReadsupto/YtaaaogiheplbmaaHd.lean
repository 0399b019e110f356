/- Lists of steps in memory; what GoodSpec and First of package stage do. -/
import Derived.Test.YtaaaogiheplbmaaHc
set_option linter.unusedSimpArgs false
set_option linter.unusedVariables false
namespace Go.Proofs.Ytaaaogiheplbmaa
open Go.RowKit

/- A list of steps, of two cells each. -/
def StpsAre (w : World) (l : List Stp) (v : Value) : Prop :=
  l.length ≤ 9223372036854775807 ∧ (l = [] ∧ (∃ a, v = .slice a 0 0) ∨ ∃ b off c, v = .slice (some ⟨b, off, none⟩) l.length c ∧ l.length ≤ c ∧ c ≤ 9223372036854775807 ∧
    ∀ i x, l[i]? = some x → w.cell? ⟨b, off + i * 2, none⟩ = some (.int .i64 x.w) ∧ w.cell? ⟨b, off + i * 2 + 1, none⟩ = some (.int .i64 x.p))
theorem StpsAre.bel {w w' : World} {l : List Stp} {v : Value} (h : StpsAre w l v) (hb : Below w.heap.size w w') : StpsAre w' l v := by
  refine ⟨h.1, ?_⟩
  rcases h.2 with h | ⟨b, off, c, e, h1, h2, h3⟩
  · exact .inl h
  · exact .inr ⟨b, off, c, e, h1, h2, fun i x hx => ⟨cell_bel hb (h3 i x hx).1, cell_bel hb (h3 i x hx).2⟩⟩
theorem StpsAre.form {w : World} {l : List Stp} {v : Value} (h : StpsAre w l v) : ∃ a c, v = .slice a l.length c := by
  rcases h.2 with ⟨rfl, a, rfl⟩ | ⟨b, off, c, rfl, _⟩
  · exact ⟨a, 0, rfl⟩
  · exact ⟨_, _, rfl⟩
theorem stps_at {w : World} {l : List Stp} {a : Option Addr} {n c k : Nat} (h : StpsAre w l (.slice a n c)) (hk : k < l.length) : ∃ b off, a = some ⟨b, off, none⟩ ∧ l.length ≤ c ∧ c ≤ 9223372036854775807 ∧
    w.cell? ⟨b, off + k * 2, none⟩ = some (.int .i64 l[k].w) ∧ w.cell? ⟨b, off + k * 2 + 1, none⟩ = some (.int .i64 l[k].p) := by
  rcases h.2 with ⟨e, _⟩ | ⟨b, off, c', e, h1, h2, h3⟩
  · rw [e] at hk; simp at hk
  · simp only [Value.slice.injEq] at e
    obtain ⟨rfl, -, rfl⟩ := e
    obtain ⟨g1, g2⟩ := h3 k l[k] (List.getElem?_eq_getElem hk)
    exact ⟨b, off, rfl, h1, h2, g1, g2⟩

set_option maxRecDepth 100000 in
set_option maxHeartbeats 1000000 in
theorem indexStep_at (w : World) (l : List Stp) (v : Value) (h : StpsAre w l v) :
    Calls Try.prog 36 #[v, .func (.func 27) #[] #[]] w fun e w' => (∃ r : Int, e = .returned (.int .i64 r) ∧ (decide (0 ≤ r) = !l.all stepOk)) ∧ Below w.heap.size w w' := by
  obtain ⟨a, c, rfl⟩ := h.form
  have H := hidI h
  have ll := h.1
  clear h
  go_enter Try.func36, Try.ntmps36
  go_wp2_with fail
  go_loopg [5, 8] l.length (fun gk _ i wr => ∃ k : Nat, k ≤ l.length ∧ gk = l.length - k ∧ i = .int .i64 k ∧ Hid ((l.take k).all stepOk = true) ∧ Hid (Below w.heap.size w wr))
  case atStart => exact ⟨0, Nat.zero_le _, rfl, rfl, rfl, Below.refl _ _⟩
  case round =>
    obtain ⟨k, hk, hgk, rfl, HA, BL⟩ := hrel
    have GK := hidI hgk
    clear hgk
    by_cases hlt : k < l.length
    · obtain ⟨b, off, rfl, j1, j2, k1, k2⟩ := stps_at H.out hlt
      have c1 := cell_bel BL.out k1
      have c2 := cell_bel BL.out k2
      have w2 : (k : Int) < (l.length : Int) := by omega
      have T1 : Hid ((l.take (k + 1)).all stepOk = stepOk l[k]) := hidI (by rw [List.take_add_one, List.getElem?_eq_getElem hlt, List.all_append, HA.out]; simp)
      clear k1 k2
      have CALL : Hid (∀ W : World, Calls Try.prog 27 #[.agg #[.int .i64 l[k].w, .int .i64 l[k].p]] W fun e w' => e = .returned (.bool (!stepOk l[k])) ∧ Below W.heap.size W w') := hidI (fun W => badStep_at W l[k])
      cases hs : stepOk l[k] with
      | true =>
        go_wp2_with (go_at_call 27; refine (CALL.out _).mono ?_; rintro e w1 ⟨rfl, hb⟩; rw [hs])
        go_roundg (l.length - (k + 1))
        case measure => rw [GK.out]; omega
        case rel => exact ⟨k + 1, hlt, rfl, by go_num, hidI (by rw [T1.out, hs]), hidI (bel_trans BL.out hb)⟩
      | false =>
        go_wp2_with (go_at_call 27; refine (CALL.out _).mono ?_; rintro e w1 ⟨rfl, hb⟩; rw [hs])
        go_ret
        refine ⟨⟨k, rfl, ?_⟩, bel_trans BL.out hb⟩
        have : l.all stepOk = false := by
          rw [List.all_eq_false]; exact ⟨l[k], List.getElem_mem _, by rw [hs]; simp⟩
        rw [this]; simp
    · have d1 : ¬ (k : Int) < (l.length : Int) := by omega
      have hke : k = l.length := by omega
      have R : Hid (l.all stepOk = true) := hidI (by have := HA.out; rwa [hke, List.take_of_length_le (Nat.le_refl _)] at this)
      clear hke
      go_wp2_with fail
      go_ret
      exact ⟨⟨-1, rfl, by rw [R.out]; rfl⟩, BL.out⟩

set_option maxRecDepth 100000 in
theorem containsStep_at (w : World) (l : List Stp) (v : Value) (h : StpsAre w l v) :
    Calls Try.prog 26 #[v, .func (.func 27) #[] #[]] w fun e w' => e = .returned (.bool (!l.all stepOk)) ∧ Below w.heap.size w w' := by
  obtain ⟨a, c, rfl⟩ := h.form
  have H := hidI h
  clear h
  go_enter Try.func26, Try.ntmps26
  go_wp2_with (go_at_call 36; refine (indexStep_at _ l _ H.out).mono ?_; rintro e w1 ⟨⟨r, rfl, hr⟩, hb⟩)
  go_ret
  exact ⟨by rw [← hr]; rfl, hb⟩

set_option maxRecDepth 100000 in
set_option maxHeartbeats 1000000 in
theorem goodSpec_at (w : World) (g : List UInt8) (l : List Stp) (v : Value) (h : StpsAre w l v) (hg : g.length ≤ 9223372036854775807) :
    Calls Try.prog 12 #[.agg #[.string ⟨g.toArray⟩, v]] w fun e w' => e = .returned (.bool (specOk g l)) ∧ Below w.heap.size w w' := by
  obtain ⟨a, c, rfl⟩ := h.form
  have H := hidI h
  have ll := h.1
  clear h
  by_cases h1 : g = []
  · have e1 : g.isEmpty = true := by simp [h1]
    have R : Hid (specOk g l = false) := hidI (by simp [specOk, h1])
    clear h1
    go_enter Try.func12, Try.ntmps12
    go_wp2_with fail
    go_ret
    exact ⟨by rw [R.out]; rfl, bel_alloc _ _⟩
  have e1 : g.isEmpty = false := by simp [h1]
  by_cases h2 : g.length ≤ 60
  · have e2 : (g.length : Int) ≤ 60 := by omega
    by_cases h3 : l.length ≤ 8
    · have e3 : (l.length : Int) ≤ 8 := by omega
      have R : Hid (specOk g l = l.all stepOk) := hidI (by simp [specOk, h1, h2, h3])
      clear h1 h2 h3
      go_enter Try.func12, Try.ntmps12
      go_wp2_with (go_at_call 26; refine (containsStep_at _ l _ (H.out.bel (bel_alloc _ _))).mono ?_; rintro e w1 ⟨rfl, hb⟩)
      go_ret
      exact ⟨by rw [R.out]; simp, bel_trans (bel_alloc _ _) hb⟩
    · have e3 : ¬ (l.length : Int) ≤ 8 := by omega
      have R : Hid (specOk g l = false) := hidI (by simp [specOk, h3])
      clear h1 h2 h3
      go_enter Try.func12, Try.ntmps12
      go_wp2_with fail
      go_ret
      exact ⟨by rw [R.out]; rfl, bel_alloc _ _⟩
  · have e2 : ¬ (g.length : Int) ≤ 60 := by omega
    have R : Hid (specOk g l = false) := hidI (by simp [specOk, h2])
    clear h1 h2
    go_enter Try.func12, Try.ntmps12
    go_wp2_with fail
    go_ret
    exact ⟨by rw [R.out]; rfl, bel_alloc _ _⟩

def firstF (g : List UInt8) (l : List Stp) : Sta × Int := if specOk g l = true then (healthyS g, 0) else (⟨[], [], 0, 0, 0, 0⟩, 1)
/- A spec in a block; what is stored into a block of a status. -/
def PBox (w : World) (g : Nat) (i : List UInt8) (v : Value) : Prop := w.heap[g]? = some (.cells #[.string ⟨i.toArray⟩, v] 28)
theorem PBox.c {w : World} {g : Nat} {i : List UInt8} {v : Value} (h : PBox w g i v) : w.cell? ⟨g, 0, none⟩ = some (.string ⟨i.toArray⟩) ∧ w.cell? ⟨g, 1, none⟩ = some v := by
  unfold PBox at h
  refine ⟨?_, ?_⟩ <;> simp [World.cell?, h]
theorem PBox.bel {w w' : World} {g : Nat} {i : List UInt8} {v : Value} (h : PBox w g i v) (hb : Below w.heap.size w w') : PBox w' g i v := (hb.block g (Array.getElem?_eq_some_iff.1 h).1).trans h
def set6 (w : World) (g : Nat) (s : Sta) : World :=
  (((((w.setCell ⟨g, 0, none⟩ (.string ⟨s.a.toArray⟩)).setCell ⟨g, 1, none⟩ (.string ⟨s.c.toArray⟩)).setCell ⟨g, 2, none⟩ (.int .i64 s.ph)).setCell ⟨g, 3, none⟩ (.int .i64 s.st)).setCell ⟨g, 4, none⟩ (.int .i64 s.we)).setCell ⟨g, 5, none⟩ (.int .i64 s.si)
theorem SBox.set {w : World} {g : Nat} {s : Sta} (h : SBox w g s) (t : Sta) : SBox (set6 w g t) g t :=
  heap_set (heap_set (heap_set (heap_set (heap_set (heap_set h 0 _) 1 _) 2 _) 3 _) 4 _) 5 _
theorem bel_set {a w : World} {g : Nat} (h : Below a.heap.size a w) (hg : a.heap.size ≤ g) (i : Nat) (v : Value) : Below a.heap.size a (w.setCell ⟨g, i, none⟩ v) := by
  have k := gb_set (gb_refl w (some g)) i v
  exact ⟨k.os.trans h.os, k.tape.trans h.tape, k.output.trans h.output, Nat.le_trans h.size k.size, fun j hj => (k.block j (Nat.lt_of_lt_of_le hj h.size) (fun e => by cases e; omega)).trans (h.block j hj)⟩
theorem bel_set6 {a w : World} {g : Nat} (h : Below a.heap.size a w) (hg : a.heap.size ≤ g) (s : Sta) : Below a.heap.size a (set6 w g s) :=
  bel_set (bel_set (bel_set (bel_set (bel_set (bel_set h hg _ _) hg _ _) hg _ _) hg _ _) hg _ _) hg _ _
theorem size_bel {w w' : World} (h : Below w.heap.size w w') : w.heap.size ≤ w'.heap.size := h.size
def zeroS : Sta := ⟨[], [], 0, 0, 0, 0⟩
theorem healthy_b (w : World) (g : List UInt8) : Calls Try.prog 22 #[.string ⟨g.toArray⟩] w fun e w' => e = .returned (.agg #[.string ⟨g.toArray⟩, .string ⟨g.toArray⟩, .int .i64 1, .int .i64 0, .int .i64 100, .int .i64 0]) ∧ Below w.heap.size w w' :=
  (healthy_at w g).mono fun e w' h => ⟨h.1, by rw [h.2]; exact bel_alloc _ _⟩
theorem begun_b (w : World) (a c : List UInt8) : Calls Try.prog 37 #[.string ⟨a.toArray⟩, .string ⟨c.toArray⟩] w fun e w' => e = .returned (.agg #[.string ⟨a.toArray⟩, .string ⟨c.toArray⟩, .int .i64 2, .int .i64 0, .int .i64 0, .int .i64 0]) ∧ Below w.heap.size w w' :=
  (begun_at w a c).mono fun e w' h => ⟨h.1, by rw [h.2]; exact bel_alloc _ _⟩
theorem aborted_b (w : World) (a c : List UInt8) : Calls Try.prog 28 #[.string ⟨a.toArray⟩, .string ⟨c.toArray⟩] w fun e w' => e = .returned (.agg #[.string ⟨a.toArray⟩, .string ⟨c.toArray⟩, .int .i64 4, .int .i64 0, .int .i64 0, .int .i64 0]) ∧ Below w.heap.size w w' :=
  (aborted_at w a c).mono fun e w' h => ⟨h.1, by rw [h.2]; exact bel_alloc _ _⟩
set_option maxRecDepth 100000 in
set_option maxHeartbeats 1000000 in
theorem first_at (w : World) (g : List UInt8) (l : List Stp) (v : Value) (h : StpsAre w l v) (hg : g.length ≤ 9223372036854775807) :
    Calls Try.prog 7 #[.agg #[.string ⟨g.toArray⟩, v]] w fun e w' => e = .returned (.tuple #[staV (firstF g l).1, .int .i64 (firstF g l).2]) ∧ Below w.heap.size w w' := by
  obtain ⟨a, c, rfl⟩ := h.form
  have H := hidI h
  have G := hidI hg
  clear h hg
  cases hs : specOk g l with
  | true =>
    rw [show firstF g l = (healthyS g, 0) by rw [firstF, if_pos hs]]
    go_enter Try.func7, Try.ntmps7
    go_wp2_with (first
      | (go_at_call 22; refine (healthy_b _ g).mono ?_; rintro e w2 ⟨rfl, hb2⟩; have S2 := hidI (S0.out.bel hb2); have HB2 := hidI (bel_trans HB.out hb2); obtain ⟨c0, c1, c2, c3, c4, c5, d0, d1, d2, d3, d4, d5⟩ := S2.out.c; clear hb2)
      | (go_at_call 12; refine (goodSpec_at _ g l _ (H.out.bel (bel_trans (bel_alloc _ _) (bel_alloc _ _))) G.out).mono ?_; rintro e w1 ⟨rfl, hb⟩; rw [hs]; obtain ⟨p0, p1⟩ := PBox.c (PBox.bel (i := g) (h2a w _ _) hb); have S0 := hidI (SBox.bel (s := zeroS) (h2b w _ _) hb)
         have HB : Hid (Below w.heap.size w w1) := hidI (bel_trans (bel_trans (bel_alloc _ _) (bel_alloc _ _)) hb)
         clear hb))
    obtain ⟨z0, z1, z2, z3, z4, z5, -⟩ := (S2.out.set (healthyS g)).c
    refine bodyPost_ret (v := .tuple #[staV (healthyS g), .int .i64 0]) ?_ rfl ⟨rfl, bel_set6 HB2.out (by omega) (healthyS g)⟩
    simp only [set6, healthyS] at z0 z1 z2 z3 z4 z5
    simp [results, Try.results7, go_sem, z0, z1, z2, z3, z4, z5, staV, healthyS]
  | false =>
    rw [show firstF g l = (zeroS, 1) by rw [firstF, if_neg (by simp [hs])]; rfl]
    go_enter Try.func7, Try.ntmps7
    go_wp2_with (go_at_call 12; refine (goodSpec_at _ g l _ (H.out.bel (bel_trans (bel_alloc _ _) (bel_alloc _ _))) G.out).mono ?_; rintro e w1 ⟨rfl, hb⟩; rw [hs]; have S0 := hidI (SBox.bel (s := zeroS) (h2b w _ _) hb); have HB : Hid (Below w.heap.size w w1) := hidI (bel_trans (bel_trans (bel_alloc _ _) (bel_alloc _ _)) hb); obtain ⟨c0, c1, c2, c3, c4, c5, d0, d1, d2, d3, d4, d5⟩ := S0.out.c; clear hb)
    obtain ⟨z0, z1, z2, z3, z4, z5, -⟩ := (S0.out.set zeroS).c
    refine bodyPost_ret (v := .tuple #[staV zeroS, .int .i64 1]) ?_ rfl ⟨rfl, bel_set6 HB.out (by omega) zeroS⟩
    simp only [set6, zeroS] at z0 z1 z2 z3 z4 z5
    simp [results, Try.results7, go_sem, z0, z1, z2, z3, z4, z5, staV, zeroS]
end Go.Proofs.Ytaaaogiheplbmaa
