/- What readSteps and Read of package stage do. -/
import Derived.Test.YtaaaogiheplbmaaIc
set_option linter.unusedSimpArgs false
set_option linter.unusedVariables false
namespace Go.Proofs.Ytaaaogiheplbmaa
open Go.RowKit

set_option maxRecDepth 100000 in
theorem readSteps_kind (w : World) (ok : Nat → Prop) (t : V) (v : Value) (h : In w ok t v) (hk : t.kind ≠ 4) : Calls Try.prog 19 #[v] w fun e w' => ∃ sl, e = .returned (.tuple #[sl, .bool (readStepsF t).isSome]) ∧ (∀ l, readStepsF t = some l → StpsAre w' l sl) ∧ Below w.heap.size w w' := by
  obtain ⟨a1, b1, c1, d1, rfl⟩ := h.form
  have e1 : (t.kind == 4) = false := by simp [hk]
  have e1n : (t.kind != 4) = true := by simp [hk]
  have FIN : Hid (readStepsF t = none) := hidI (by rw [readStepsF, if_pos (.inl hk)])
  clear h hk
  go_enter Try.func19, Try.ntmps19
  go_wp2_with fail
  refine bodyPost_ret (v := .tuple #[.slice none 0 0, .bool false]) (by simp [results, Try.results19, go_sem]) rfl ?_
  exact ⟨.slice none 0 0, by rw [FIN.out]; rfl, fun l hl => (by rw [FIN.out] at hl; cases hl), bel_alloc _ _⟩
set_option maxRecDepth 100000 in
theorem readSteps_long (w : World) (ok : Nat → Prop) (t : V) (v : Value) (h : In w ok t v) (hk : t.kind = 4) (h8 : 8 < t.l.length) : Calls Try.prog 19 #[v] w fun e w' => ∃ sl, e = .returned (.tuple #[sl, .bool (readStepsF t).isSome]) ∧ (∀ l, readStepsF t = some l → StpsAre w' l sl) ∧ Below w.heap.size w w' := by
  obtain ⟨a1, b1, c1, d1, rfl⟩ := h.form
  have e1 : (t.kind == 4) = true := by simp [hk]
  have e1n : (t.kind != 4) = false := by simp [hk]
  have e2 : 8 < (t.l.length : Int) := by omega
  have FIN : Hid (readStepsF t = none) := hidI (by rw [readStepsF, if_pos (.inr h8)])
  clear h hk h8
  go_enter Try.func19, Try.ntmps19
  go_wp2_with fail
  refine bodyPost_ret (v := .tuple #[.slice none 0 0, .bool false]) (by simp [results, Try.results19, go_sem]) rfl ?_
  exact ⟨.slice none 0 0, by rw [FIN.out]; rfl, fun l hl => (by rw [FIN.out] at hl; cases hl), bel_alloc _ _⟩
theorem readSteps_at (w : World) (ok : Nat → Prop) (t : V) (v : Value) (h : In w ok t v) : Calls Try.prog 19 #[v] w fun e w' => ∃ sl, e = .returned (.tuple #[sl, .bool (readStepsF t).isSome]) ∧ (∀ l, readStepsF t = some l → StpsAre w' l sl) ∧ Below w.heap.size w w' := by
  by_cases hk : t.kind = 4
  · by_cases h8 : t.l.length ≤ 8
    · rw [show readStepsF t = allF t.l by rw [readStepsF, if_neg (by omega)]]
      exact readSteps_good w ok t v h hk h8
    · exact readSteps_long w ok t v h hk (by omega)
  · exact readSteps_kind w ok t v h hk

def imageB : List UInt8 := [105, 109, 97, 103, 101]
def stepsB : List UInt8 := [115, 116, 101, 112, 115]
def readF (t : V) : Option (List UInt8 × List Stp) :=
  if goodV t = false then none
  else match memV t imageB with
    | none => none
    | some m => if m.kind ≠ 3 ∨ m.s = [] then none
      else match memV t stepsB with
        | none => some (m.s, [])
        | some q => match readStepsF q with
          | none => none
          | some l => some (m.s, l)
def readG (t : V) : List UInt8 × List Stp := (readF t).getD ([], [])
def readE (t : V) : Int := if (readF t).isSome then 0 else 1
/- The first two blocks of Read. -/
def RD (w : World) (t : V) (a1 b1 : Option Addr) (c1 d1 : Nat) (wS : World) : Prop := BoxIs wS w.heap.size (.int .i64 t.kind) (.int .i64 t.n) (.string ⟨t.s.toArray⟩) (.slice a1 t.keys.length c1) (.slice b1 t.l.length d1) ∧ PBox wS (w.heap.size + 1) [] (.slice none 0 0) ∧ Below w.heap.size w wS
theorem RD.bel {w wS w' : World} {t : V} {a1 b1 : Option Addr} {c1 d1 : Nat} (h : RD w t a1 b1 c1 d1 wS) (hb : Below wS.heap.size wS w') : RD w t a1 b1 c1 d1 w' := ⟨box_bel hb h.1, h.2.1.bel hb, bel_trans h.2.2 hb⟩
theorem PBox.cf {w : World} {g : Nat} {i : List UInt8} {v : Value} (h : PBox w g i v) : w.frozen? ⟨g, 0, none⟩ = false ∧ w.frozen? ⟨g, 1, none⟩ = false := by
  unfold PBox at h
  refine ⟨?_, ?_⟩ <;> simp [World.frozen?, h]
theorem PBox.set {w : World} {g : Nat} {i : List UInt8} {v : Value} (h : PBox w g i v) (j : List UInt8) (u : Value) : PBox ((w.setCell ⟨g, 0, none⟩ (.string ⟨j.toArray⟩)).setCell ⟨g, 1, none⟩ u) g j u := heap_set (heap_set h 0 _) 1 _
theorem stps_far {w : World} {g n c : Nat} {i : List UInt8} {a : Option Addr} {l : List Stp} {sl x y : Value} (h : StpsAre w l sl) (p : PBox w g i (.slice a n c)) : StpsAre ((w.setCell ⟨g, 0, none⟩ x).setCell ⟨g, 1, none⟩ y) l sl := by
  refine ⟨h.1, ?_⟩
  rcases h.2 with h | ⟨b, off, c, e, h1, h2, h3⟩
  · exact .inl h
  · have far : ∀ (o : Nat) (m : Int), w.cell? ⟨b, o, none⟩ = some (.int .i64 m) → ((w.setCell ⟨g, 0, none⟩ x).setCell ⟨g, 1, none⟩ y).cell? ⟨b, o, none⟩ = some (.int .i64 m) := by
      intro o m hc
      have hne : b ≠ g := by
        intro e
        subst e
        unfold PBox at p
        simp only [World.cell?, p] at hc
        match o with
        | 0 => simp at hc
        | 1 => simp at hc
        | k + 2 => simp at hc
      rw [World.cell?_of_block ((Below.heap_setCell _ ⟨g, 1, none⟩ y b hne).trans (Below.heap_setCell w ⟨g, 0, none⟩ x b hne))]
      exact hc
    exact .inr ⟨b, off, c, e, h1, h2, fun i z hz => ⟨far _ _ (h3 i z hz).1, far _ _ (h3 i z hz).2⟩⟩
theorem stps_nil2 (w : World) : StpsAre w [] (.slice none 0 0) := ⟨by simp, .inl ⟨rfl, none, rfl⟩⟩
set_option maxRecDepth 100000 in
set_option maxHeartbeats 4000000 in
theorem read_bad (w : World) (ok : Nat → Prop) (t : V) (v : Value) (h : In w ok t v) (hg : goodV t = false) : Calls Try.prog 4 #[v] w fun e w' => ∃ sl, e = .returned (.tuple #[.agg #[.string ⟨(readG t).1.toArray⟩, sl], .int .i64 (readE t)]) ∧ StpsAre w' (readG t).2 sl ∧ Below w.heap.size w w' := by
  have H := hidI h
  obtain ⟨a1, b1, c1, d1, rfl⟩ := h.form
  have K0 : Hid (RD w t a1 b1 c1 d1 ((w.alloc (.cells #[.int .i64 t.kind, .int .i64 t.n, .string ⟨t.s.toArray⟩, .slice a1 t.keys.length c1, .slice b1 t.l.length d1] 25)).alloc (.cells #[.string ⟨#[]⟩, .slice none 0 0] 28))) := hidI ⟨h2a w _ _, h2b w _ _, bel_trans (bel_alloc _ _) (bel_alloc _ _)⟩
  clear h
  have hF : readF t = none := by rw [readF, if_pos hg]
  have FG : Hid (readG t = ([], [])) := hidI (by simp [readG, hF])
  have FE : Hid (readE t = 1) := hidI (by simp [readE, hF])
  clear hF
  go_enter Try.func4, Try.ntmps4
  go_wp2_with (go_at_call 17; refine (good_is _ ok t _ (by exact H.out.bel K0.out.2.2)).mono ?_; rintro e w1 ⟨rfl, hb⟩; rw [hg]; have K1 := hidI (K0.out.bel hb); obtain ⟨t0, t1, t2, t3, t4, -⟩ := K1.out.1.c; obtain ⟨p0, p1⟩ := K1.out.2.1.c; obtain ⟨f0, f1⟩ := K1.out.2.1.cf; clear hb)
  obtain ⟨z0, z1⟩ := (K1.out.2.1.set [] (.slice none 0 0)).c
  refine bodyPost_ret (v := .tuple #[.agg #[.string ⟨#[]⟩, .slice none 0 0], .int .i64 1]) ?_ rfl ⟨.slice none 0 0, by rw [FG.out, FE.out], by rw [FG.out]; exact stps_nil2 _, bel_set (bel_set K1.out.2.2 (by omega) _ _) (by omega) _ _⟩
  simp [results, Try.results4, go_sem, z0, z1]
set_option maxRecDepth 100000 in
set_option maxHeartbeats 4000000 in
theorem read_noimage (w : World) (ok : Nat → Prop) (t : V) (v : Value) (h : In w ok t v) (hg : goodV t = true) (hm : memV t imageB = none) : Calls Try.prog 4 #[v] w fun e w' => ∃ sl, e = .returned (.tuple #[.agg #[.string ⟨(readG t).1.toArray⟩, sl], .int .i64 (readE t)]) ∧ StpsAre w' (readG t).2 sl ∧ Below w.heap.size w w' := by
  have H := hidI h
  obtain ⟨a1, b1, c1, d1, rfl⟩ := h.form
  have K0 : Hid (RD w t a1 b1 c1 d1 ((w.alloc (.cells #[.int .i64 t.kind, .int .i64 t.n, .string ⟨t.s.toArray⟩, .slice a1 t.keys.length c1, .slice b1 t.l.length d1] 25)).alloc (.cells #[.string ⟨#[]⟩, .slice none 0 0] 28))) := hidI ⟨h2a w _ _, h2b w _ _, bel_trans (bel_alloc _ _) (bel_alloc _ _)⟩
  clear h
  have hF : readF t = none := by simp [readF, hg, hm]
  have FG : Hid (readG t = ([], [])) := hidI (by simp [readG, hF])
  have FE : Hid (readE t = 1) := hidI (by simp [readE, hF])
  have HM := hidI hm
  clear hF hm
  go_enter Try.func4, Try.ntmps4
  go_wp2_with (first | (go_at_call 17; refine (good_is _ ok t _ (by exact H.out.bel K0.out.2.2)).mono ?_; rintro e w1 ⟨rfl, hb⟩; rw [hg]; have K1 := hidI (K0.out.bel hb); obtain ⟨t0, t1, t2, t3, t4, -⟩ := K1.out.1.c; obtain ⟨p0, p1⟩ := K1.out.2.1.c; obtain ⟨f0, f1⟩ := K1.out.2.1.cf; clear hb) | (go_at_call 18; refine (member_is _ ok t _ imageB (by exact H.out.bel K1.out.2.2)).mono ?_; rintro e w2 ⟨xm, bm, rfl, hb, hb2, m, hy, hyz⟩; obtain ⟨a5, b5, c5, d5, rfl⟩ := hy.form; rw [HM.out] at hb2 hyz; simp only [Option.isSome] at hb2; subst hb2; have Bm := hidI (show BoxIs (w2.alloc (.cells #[.int .i64 m.kind, .int .i64 m.n, .string ⟨m.s.toArray⟩, .slice a5 m.keys.length c5, .slice b5 m.l.length d5] 25)) w2.heap.size (.int .i64 m.kind) (.int .i64 m.n) (.string ⟨m.s.toArray⟩) (.slice a5 m.keys.length c5) (.slice b5 m.l.length d5) from heap_alloc_new w2 _); have K2 := hidI (K1.out.bel (bel_trans hb (bel_alloc w2 (.cells #[.int .i64 m.kind, .int .i64 m.n, .string ⟨m.s.toArray⟩, .slice a5 m.keys.length c5, .slice b5 m.l.length d5] 25)))); clear t0 t1 t2 t3 t4 p0 p1 f0 f1; obtain ⟨t0, t1, t2, t3, t4, -⟩ := K2.out.1.c; obtain ⟨p0, p1⟩ := K2.out.2.1.c; obtain ⟨f0, f1⟩ := K2.out.2.1.cf; obtain ⟨m0, m1, m2, m3, m4, -⟩ := Bm.out.c; clear hb hy hyz))
  obtain ⟨z0, z1⟩ := (K2.out.2.1.set [] (.slice none 0 0)).c
  refine bodyPost_ret (v := .tuple #[.agg #[.string ⟨#[]⟩, .slice none 0 0], .int .i64 1]) ?_ rfl ⟨.slice none 0 0, by rw [FG.out, FE.out], by rw [FG.out]; exact stps_nil2 _, bel_set (bel_set K2.out.2.2 (by omega) _ _) (by omega) _ _⟩
  simp [results, Try.results4, go_sem, z0, z1]
set_option maxRecDepth 100000 in
set_option maxHeartbeats 4000000 in
theorem read_notext (w : World) (ok : Nat → Prop) (t : V) (v : Value) (h : In w ok t v) (hg : goodV t = true) (mm : V) (hm : memV t imageB = some mm) (hk : mm.kind ≠ 3) : Calls Try.prog 4 #[v] w fun e w' => ∃ sl, e = .returned (.tuple #[.agg #[.string ⟨(readG t).1.toArray⟩, sl], .int .i64 (readE t)]) ∧ StpsAre w' (readG t).2 sl ∧ Below w.heap.size w w' := by
  have H := hidI h
  obtain ⟨a1, b1, c1, d1, rfl⟩ := h.form
  have K0 : Hid (RD w t a1 b1 c1 d1 ((w.alloc (.cells #[.int .i64 t.kind, .int .i64 t.n, .string ⟨t.s.toArray⟩, .slice a1 t.keys.length c1, .slice b1 t.l.length d1] 25)).alloc (.cells #[.string ⟨#[]⟩, .slice none 0 0] 28))) := hidI ⟨h2a w _ _, h2b w _ _, bel_trans (bel_alloc _ _) (bel_alloc _ _)⟩
  clear h
  have hF : readF t = none := by simp [readF, hg, hm, hk]
  have FG : Hid (readG t = ([], [])) := hidI (by simp [readG, hF])
  have FE : Hid (readE t = 1) := hidI (by simp [readE, hF])
  have HM := hidI hm
  have e1 : (mm.kind == 3) = false := by simp [hk]
  have e1n : (mm.kind != 3) = true := by simp [hk]
  clear hF hm hk
  go_enter Try.func4, Try.ntmps4
  go_wp2_with (first | (go_at_call 17; refine (good_is _ ok t _ (by exact H.out.bel K0.out.2.2)).mono ?_; rintro e w1 ⟨rfl, hb⟩; rw [hg]; have K1 := hidI (K0.out.bel hb); obtain ⟨t0, t1, t2, t3, t4, -⟩ := K1.out.1.c; obtain ⟨p0, p1⟩ := K1.out.2.1.c; obtain ⟨f0, f1⟩ := K1.out.2.1.cf; clear hb) | (go_at_call 18; refine (member_is _ ok t _ imageB (by exact H.out.bel K1.out.2.2)).mono ?_; rintro e w2 ⟨xm, bm, rfl, hb, hb2, m, hy, hyz⟩; obtain ⟨a5, b5, c5, d5, rfl⟩ := hy.form; rw [HM.out] at hb2 hyz; simp only [Option.isSome] at hb2; subst hb2; obtain rfl := hyz _ rfl; have Im := hidI (hy.bel (bel_alloc w2 (.cells #[.int .i64 m.kind, .int .i64 m.n, .string ⟨m.s.toArray⟩, .slice a5 m.keys.length c5, .slice b5 m.l.length d5] 25))); have Bm := hidI (show BoxIs (w2.alloc (.cells #[.int .i64 m.kind, .int .i64 m.n, .string ⟨m.s.toArray⟩, .slice a5 m.keys.length c5, .slice b5 m.l.length d5] 25)) w2.heap.size (.int .i64 m.kind) (.int .i64 m.n) (.string ⟨m.s.toArray⟩) (.slice a5 m.keys.length c5) (.slice b5 m.l.length d5) from heap_alloc_new w2 _); have K2 := hidI (K1.out.bel (bel_trans hb (bel_alloc w2 (.cells #[.int .i64 m.kind, .int .i64 m.n, .string ⟨m.s.toArray⟩, .slice a5 m.keys.length c5, .slice b5 m.l.length d5] 25)))); clear t0 t1 t2 t3 t4 p0 p1 f0 f1; obtain ⟨t0, t1, t2, t3, t4, -⟩ := K2.out.1.c; obtain ⟨p0, p1⟩ := K2.out.2.1.c; obtain ⟨f0, f1⟩ := K2.out.2.1.cf; obtain ⟨m0, m1, m2, m3, m4, -⟩ := Bm.out.c; clear hb hy hyz))
  obtain ⟨z0, z1⟩ := (K2.out.2.1.set [] (.slice none 0 0)).c
  refine bodyPost_ret (v := .tuple #[.agg #[.string ⟨#[]⟩, .slice none 0 0], .int .i64 1]) ?_ rfl ⟨.slice none 0 0, by rw [FG.out, FE.out], by rw [FG.out]; exact stps_nil2 _, bel_set (bel_set K2.out.2.2 (by omega) _ _) (by omega) _ _⟩
  simp [results, Try.results4, go_sem, z0, z1]
set_option maxRecDepth 100000 in
set_option maxHeartbeats 4000000 in
theorem read_empty (w : World) (ok : Nat → Prop) (t : V) (v : Value) (h : In w ok t v) (hg : goodV t = true) (mm : V) (hm : memV t imageB = some mm) (hk : mm.kind = 3) (hs : mm.s = []) : Calls Try.prog 4 #[v] w fun e w' => ∃ sl, e = .returned (.tuple #[.agg #[.string ⟨(readG t).1.toArray⟩, sl], .int .i64 (readE t)]) ∧ StpsAre w' (readG t).2 sl ∧ Below w.heap.size w w' := by
  have H := hidI h
  obtain ⟨a1, b1, c1, d1, rfl⟩ := h.form
  have K0 : Hid (RD w t a1 b1 c1 d1 ((w.alloc (.cells #[.int .i64 t.kind, .int .i64 t.n, .string ⟨t.s.toArray⟩, .slice a1 t.keys.length c1, .slice b1 t.l.length d1] 25)).alloc (.cells #[.string ⟨#[]⟩, .slice none 0 0] 28))) := hidI ⟨h2a w _ _, h2b w _ _, bel_trans (bel_alloc _ _) (bel_alloc _ _)⟩
  clear h
  have hF : readF t = none := by simp [readF, hg, hm, hk, hs]
  have FG : Hid (readG t = ([], [])) := hidI (by simp [readG, hF])
  have FE : Hid (readE t = 1) := hidI (by simp [readE, hF])
  have HM := hidI hm
  have e1 : (mm.kind == 3) = true := by simp [hk]
  have e1n : (mm.kind != 3) = false := by simp [hk]
  have e2 : mm.s.isEmpty = true := by simp [hs]
  clear hF hm hk hs
  go_enter Try.func4, Try.ntmps4
  go_wp2_with (first | (go_at_call 17; refine (good_is _ ok t _ (by exact H.out.bel K0.out.2.2)).mono ?_; rintro e w1 ⟨rfl, hb⟩; rw [hg]; have K1 := hidI (K0.out.bel hb); obtain ⟨t0, t1, t2, t3, t4, -⟩ := K1.out.1.c; obtain ⟨p0, p1⟩ := K1.out.2.1.c; obtain ⟨f0, f1⟩ := K1.out.2.1.cf; clear hb) | (go_at_call 18; refine (member_is _ ok t _ imageB (by exact H.out.bel K1.out.2.2)).mono ?_; rintro e w2 ⟨xm, bm, rfl, hb, hb2, m, hy, hyz⟩; obtain ⟨a5, b5, c5, d5, rfl⟩ := hy.form; rw [HM.out] at hb2 hyz; simp only [Option.isSome] at hb2; subst hb2; obtain rfl := hyz _ rfl; have Im := hidI (hy.bel (bel_alloc w2 (.cells #[.int .i64 m.kind, .int .i64 m.n, .string ⟨m.s.toArray⟩, .slice a5 m.keys.length c5, .slice b5 m.l.length d5] 25))); have Bm := hidI (show BoxIs (w2.alloc (.cells #[.int .i64 m.kind, .int .i64 m.n, .string ⟨m.s.toArray⟩, .slice a5 m.keys.length c5, .slice b5 m.l.length d5] 25)) w2.heap.size (.int .i64 m.kind) (.int .i64 m.n) (.string ⟨m.s.toArray⟩) (.slice a5 m.keys.length c5) (.slice b5 m.l.length d5) from heap_alloc_new w2 _); have K2 := hidI (K1.out.bel (bel_trans hb (bel_alloc w2 (.cells #[.int .i64 m.kind, .int .i64 m.n, .string ⟨m.s.toArray⟩, .slice a5 m.keys.length c5, .slice b5 m.l.length d5] 25)))); clear t0 t1 t2 t3 t4 p0 p1 f0 f1; obtain ⟨t0, t1, t2, t3, t4, -⟩ := K2.out.1.c; obtain ⟨p0, p1⟩ := K2.out.2.1.c; obtain ⟨f0, f1⟩ := K2.out.2.1.cf; obtain ⟨m0, m1, m2, m3, m4, -⟩ := Bm.out.c; clear hb hy hyz))
  obtain ⟨z0, z1⟩ := (K2.out.2.1.set [] (.slice none 0 0)).c
  refine bodyPost_ret (v := .tuple #[.agg #[.string ⟨#[]⟩, .slice none 0 0], .int .i64 1]) ?_ rfl ⟨.slice none 0 0, by rw [FG.out, FE.out], by rw [FG.out]; exact stps_nil2 _, bel_set (bel_set K2.out.2.2 (by omega) _ _) (by omega) _ _⟩
  simp [results, Try.results4, go_sem, z0, z1]
set_option maxRecDepth 100000 in
set_option maxHeartbeats 4000000 in
theorem read_short (w : World) (ok : Nat → Prop) (t : V) (v : Value) (h : In w ok t v) (hg : goodV t = true) (mm : V) (hm : memV t imageB = some mm) (hk : mm.kind = 3) (hs : mm.s ≠ []) (hq : memV t stepsB = none) : Calls Try.prog 4 #[v] w fun e w' => ∃ sl, e = .returned (.tuple #[.agg #[.string ⟨(readG t).1.toArray⟩, sl], .int .i64 (readE t)]) ∧ StpsAre w' (readG t).2 sl ∧ Below w.heap.size w w' := by
  have H := hidI h
  obtain ⟨a1, b1, c1, d1, rfl⟩ := h.form
  have K0 : Hid (RD w t a1 b1 c1 d1 ((w.alloc (.cells #[.int .i64 t.kind, .int .i64 t.n, .string ⟨t.s.toArray⟩, .slice a1 t.keys.length c1, .slice b1 t.l.length d1] 25)).alloc (.cells #[.string ⟨#[]⟩, .slice none 0 0] 28))) := hidI ⟨h2a w _ _, h2b w _ _, bel_trans (bel_alloc _ _) (bel_alloc _ _)⟩
  clear h
  have hF : readF t = some (mm.s, []) := by simp [readF, hg, hm, hk, hs, hq]
  have FG : Hid (readG t = (mm.s, [])) := hidI (by simp [readG, hF])
  have FE : Hid (readE t = 0) := hidI (by simp [readE, hF])
  have HM := hidI hm
  have HQ := hidI hq
  have e1 : (mm.kind == 3) = true := by simp [hk]
  have e1n : (mm.kind != 3) = false := by simp [hk]
  have e2 : mm.s.isEmpty = false := by simp [hs]
  clear hF hm hk hs hq
  go_enter Try.func4, Try.ntmps4
  go_upto_region 6 with (first | (go_at_call 17; refine (good_is _ ok t _ (by exact H.out.bel K0.out.2.2)).mono ?_; rintro e w1 ⟨rfl, hb⟩; rw [hg]; have K1 := hidI (K0.out.bel hb); obtain ⟨t0, t1, t2, t3, t4, -⟩ := K1.out.1.c; obtain ⟨p0, p1⟩ := K1.out.2.1.c; obtain ⟨f0, f1⟩ := K1.out.2.1.cf; clear hb) | (go_at_call 18; refine (member_is _ ok t _ imageB (by exact H.out.bel K1.out.2.2)).mono ?_; rintro e w2 ⟨xm, bm, rfl, hb, hb2, m, hy, hyz⟩; obtain ⟨a5, b5, c5, d5, rfl⟩ := hy.form; rw [HM.out] at hb2 hyz; simp only [Option.isSome] at hb2; subst hb2; obtain rfl := hyz _ rfl; have Im := hidI (hy.bel (bel_alloc w2 (.cells #[.int .i64 m.kind, .int .i64 m.n, .string ⟨m.s.toArray⟩, .slice a5 m.keys.length c5, .slice b5 m.l.length d5] 25))); have Bm := hidI (show BoxIs (w2.alloc (.cells #[.int .i64 m.kind, .int .i64 m.n, .string ⟨m.s.toArray⟩, .slice a5 m.keys.length c5, .slice b5 m.l.length d5] 25)) w2.heap.size (.int .i64 m.kind) (.int .i64 m.n) (.string ⟨m.s.toArray⟩) (.slice a5 m.keys.length c5) (.slice b5 m.l.length d5) from heap_alloc_new w2 _); have K2 := hidI (K1.out.bel (bel_trans hb (bel_alloc w2 (.cells #[.int .i64 m.kind, .int .i64 m.n, .string ⟨m.s.toArray⟩, .slice a5 m.keys.length c5, .slice b5 m.l.length d5] 25)))); clear t0 t1 t2 t3 t4 p0 p1 f0 f1; obtain ⟨t0, t1, t2, t3, t4, -⟩ := K2.out.1.c; obtain ⟨p0, p1⟩ := K2.out.2.1.c; obtain ⟨f0, f1⟩ := K2.out.2.1.cf; obtain ⟨m0, m1, m2, m3, m4, -⟩ := Bm.out.c; clear hb hy hyz))
  go_wp2_with (first | (go_at_call 18; refine (member_is _ ok t _ stepsB (by exact H.out.bel K2.out.2.2)).mono ?_; rintro e w3 ⟨xq, bq, rfl, hb, hb2, q, hy, hyz⟩; obtain ⟨a6, b6, c6, d6, rfl⟩ := hy.form; rw [HQ.out] at hb2 hyz; simp only [Option.isSome] at hb2; subst hb2; have Bq := hidI (show BoxIs (w3.alloc (.cells #[.int .i64 q.kind, .int .i64 q.n, .string ⟨q.s.toArray⟩, .slice a6 q.keys.length c6, .slice b6 q.l.length d6] 25)) w3.heap.size (.int .i64 q.kind) (.int .i64 q.n) (.string ⟨q.s.toArray⟩) (.slice a6 q.keys.length c6) (.slice b6 q.l.length d6) from heap_alloc_new w3 _); have K3 := hidI (K2.out.bel (bel_trans hb (bel_alloc w3 (.cells #[.int .i64 q.kind, .int .i64 q.n, .string ⟨q.s.toArray⟩, .slice a6 q.keys.length c6, .slice b6 q.l.length d6] 25)))); have Bm3 := hidI (box_bel (bel_trans hb (bel_alloc w3 (.cells #[.int .i64 q.kind, .int .i64 q.n, .string ⟨q.s.toArray⟩, .slice a6 q.keys.length c6, .slice b6 q.l.length d6] 25))) Bm.out); clear m0 m1 m2 m3 m4; obtain ⟨m0, m1, m2, m3, m4, -⟩ := Bm3.out.c; clear t0 t1 t2 t3 t4 p0 p1 f0 f1; obtain ⟨t0, t1, t2, t3, t4, -⟩ := K3.out.1.c; obtain ⟨p0, p1⟩ := K3.out.2.1.c; obtain ⟨f0, f1⟩ := K3.out.2.1.cf; obtain ⟨q0, q1, q2, q3, q4, -⟩ := Bq.out.c; clear hb hy hyz))
  obtain ⟨z0, z1⟩ := (K3.out.2.1.set (m.s) (.slice none 0 0)).c
  refine bodyPost_ret (v := .tuple #[.agg #[.string ⟨(m.s).toArray⟩, .slice none 0 0], .int .i64 0]) ?_ rfl ⟨.slice none 0 0, by rw [FG.out, FE.out], by rw [FG.out]; exact stps_nil2 _, bel_set (bel_set K3.out.2.2 (by omega) _ _) (by omega) _ _⟩
  simp [results, Try.results4, go_sem, z0, z1]
set_option maxRecDepth 100000 in
set_option maxHeartbeats 4000000 in
theorem read_wrong (w : World) (ok : Nat → Prop) (t : V) (v : Value) (h : In w ok t v) (hg : goodV t = true) (mm : V) (hm : memV t imageB = some mm) (hk : mm.kind = 3) (hs : mm.s ≠ []) (qq : V) (hq : memV t stepsB = some qq) (hl : readStepsF qq = none) : Calls Try.prog 4 #[v] w fun e w' => ∃ sl, e = .returned (.tuple #[.agg #[.string ⟨(readG t).1.toArray⟩, sl], .int .i64 (readE t)]) ∧ StpsAre w' (readG t).2 sl ∧ Below w.heap.size w w' := by
  have H := hidI h
  obtain ⟨a1, b1, c1, d1, rfl⟩ := h.form
  have K0 : Hid (RD w t a1 b1 c1 d1 ((w.alloc (.cells #[.int .i64 t.kind, .int .i64 t.n, .string ⟨t.s.toArray⟩, .slice a1 t.keys.length c1, .slice b1 t.l.length d1] 25)).alloc (.cells #[.string ⟨#[]⟩, .slice none 0 0] 28))) := hidI ⟨h2a w _ _, h2b w _ _, bel_trans (bel_alloc _ _) (bel_alloc _ _)⟩
  clear h
  have hF : readF t = none := by simp [readF, hg, hm, hk, hs, hq, hl]
  have FG : Hid (readG t = ([], [])) := hidI (by simp [readG, hF])
  have FE : Hid (readE t = 1) := hidI (by simp [readE, hF])
  have HM := hidI hm
  have HQ := hidI hq
  have e1 : (mm.kind == 3) = true := by simp [hk]
  have e1n : (mm.kind != 3) = false := by simp [hk]
  have e2 : mm.s.isEmpty = false := by simp [hs]
  clear hF hm hk hs hq
  go_enter Try.func4, Try.ntmps4
  go_upto_region 6 with (first | (go_at_call 17; refine (good_is _ ok t _ (by exact H.out.bel K0.out.2.2)).mono ?_; rintro e w1 ⟨rfl, hb⟩; rw [hg]; have K1 := hidI (K0.out.bel hb); obtain ⟨t0, t1, t2, t3, t4, -⟩ := K1.out.1.c; obtain ⟨p0, p1⟩ := K1.out.2.1.c; obtain ⟨f0, f1⟩ := K1.out.2.1.cf; clear hb) | (go_at_call 18; refine (member_is _ ok t _ imageB (by exact H.out.bel K1.out.2.2)).mono ?_; rintro e w2 ⟨xm, bm, rfl, hb, hb2, m, hy, hyz⟩; obtain ⟨a5, b5, c5, d5, rfl⟩ := hy.form; rw [HM.out] at hb2 hyz; simp only [Option.isSome] at hb2; subst hb2; obtain rfl := hyz _ rfl; have Im := hidI (hy.bel (bel_alloc w2 (.cells #[.int .i64 m.kind, .int .i64 m.n, .string ⟨m.s.toArray⟩, .slice a5 m.keys.length c5, .slice b5 m.l.length d5] 25))); have Bm := hidI (show BoxIs (w2.alloc (.cells #[.int .i64 m.kind, .int .i64 m.n, .string ⟨m.s.toArray⟩, .slice a5 m.keys.length c5, .slice b5 m.l.length d5] 25)) w2.heap.size (.int .i64 m.kind) (.int .i64 m.n) (.string ⟨m.s.toArray⟩) (.slice a5 m.keys.length c5) (.slice b5 m.l.length d5) from heap_alloc_new w2 _); have K2 := hidI (K1.out.bel (bel_trans hb (bel_alloc w2 (.cells #[.int .i64 m.kind, .int .i64 m.n, .string ⟨m.s.toArray⟩, .slice a5 m.keys.length c5, .slice b5 m.l.length d5] 25)))); clear t0 t1 t2 t3 t4 p0 p1 f0 f1; obtain ⟨t0, t1, t2, t3, t4, -⟩ := K2.out.1.c; obtain ⟨p0, p1⟩ := K2.out.2.1.c; obtain ⟨f0, f1⟩ := K2.out.2.1.cf; obtain ⟨m0, m1, m2, m3, m4, -⟩ := Bm.out.c; clear hb hy hyz))
  go_wp2_with (first | (go_at_call 19; refine (readSteps_at _ ok q _ (by exact Iq.out)).mono ?_; rintro e w4 ⟨sl, rfl, hsl, hb⟩; rw [hl]; have K4 := hidI (K3.out.bel hb); have Bm4 := hidI (box_bel hb Bm3.out); clear t0 t1 t2 t3 t4 p0 p1 f0 f1 m0 m1 m2 m3 m4 q0 q1 q2 q3 q4; obtain ⟨t0, t1, t2, t3, t4, -⟩ := K4.out.1.c; obtain ⟨p0, p1⟩ := K4.out.2.1.c; obtain ⟨f0, f1⟩ := K4.out.2.1.cf; obtain ⟨m0, m1, m2, m3, m4, -⟩ := Bm4.out.c; clear hb) | (go_at_call 18; refine (member_is _ ok t _ stepsB (by exact H.out.bel K2.out.2.2)).mono ?_; rintro e w3 ⟨xq, bq, rfl, hb, hb2, q, hy, hyz⟩; obtain ⟨a6, b6, c6, d6, rfl⟩ := hy.form; rw [HQ.out] at hb2 hyz; simp only [Option.isSome] at hb2; subst hb2; obtain rfl := hyz _ rfl; have Iq := hidI (hy.bel (bel_alloc w3 (.cells #[.int .i64 q.kind, .int .i64 q.n, .string ⟨q.s.toArray⟩, .slice a6 q.keys.length c6, .slice b6 q.l.length d6] 25))); have Bq := hidI (show BoxIs (w3.alloc (.cells #[.int .i64 q.kind, .int .i64 q.n, .string ⟨q.s.toArray⟩, .slice a6 q.keys.length c6, .slice b6 q.l.length d6] 25)) w3.heap.size (.int .i64 q.kind) (.int .i64 q.n) (.string ⟨q.s.toArray⟩) (.slice a6 q.keys.length c6) (.slice b6 q.l.length d6) from heap_alloc_new w3 _); have K3 := hidI (K2.out.bel (bel_trans hb (bel_alloc w3 (.cells #[.int .i64 q.kind, .int .i64 q.n, .string ⟨q.s.toArray⟩, .slice a6 q.keys.length c6, .slice b6 q.l.length d6] 25)))); have Bm3 := hidI (box_bel (bel_trans hb (bel_alloc w3 (.cells #[.int .i64 q.kind, .int .i64 q.n, .string ⟨q.s.toArray⟩, .slice a6 q.keys.length c6, .slice b6 q.l.length d6] 25))) Bm.out); clear m0 m1 m2 m3 m4; obtain ⟨m0, m1, m2, m3, m4, -⟩ := Bm3.out.c; clear t0 t1 t2 t3 t4 p0 p1 f0 f1; obtain ⟨t0, t1, t2, t3, t4, -⟩ := K3.out.1.c; obtain ⟨p0, p1⟩ := K3.out.2.1.c; obtain ⟨f0, f1⟩ := K3.out.2.1.cf; obtain ⟨q0, q1, q2, q3, q4, -⟩ := Bq.out.c; clear hb hy hyz))
  obtain ⟨z0, z1⟩ := (K4.out.2.1.set [] (.slice none 0 0)).c
  refine bodyPost_ret (v := .tuple #[.agg #[.string ⟨#[]⟩, .slice none 0 0], .int .i64 1]) ?_ rfl ⟨.slice none 0 0, by rw [FG.out, FE.out], by rw [FG.out]; exact stps_nil2 _, bel_set (bel_set K4.out.2.2 (by omega) _ _) (by omega) _ _⟩
  simp [results, Try.results4, go_sem, z0, z1]
set_option maxRecDepth 100000 in
set_option maxHeartbeats 4000000 in
theorem read_right (w : World) (ok : Nat → Prop) (t : V) (v : Value) (h : In w ok t v) (hg : goodV t = true) (mm : V) (hm : memV t imageB = some mm) (hk : mm.kind = 3) (hs : mm.s ≠ []) (qq : V) (hq : memV t stepsB = some qq) (l : List Stp) (hl : readStepsF qq = some l) : Calls Try.prog 4 #[v] w fun e w' => ∃ sl, e = .returned (.tuple #[.agg #[.string ⟨(readG t).1.toArray⟩, sl], .int .i64 (readE t)]) ∧ StpsAre w' (readG t).2 sl ∧ Below w.heap.size w w' := by
  have H := hidI h
  obtain ⟨a1, b1, c1, d1, rfl⟩ := h.form
  have K0 : Hid (RD w t a1 b1 c1 d1 ((w.alloc (.cells #[.int .i64 t.kind, .int .i64 t.n, .string ⟨t.s.toArray⟩, .slice a1 t.keys.length c1, .slice b1 t.l.length d1] 25)).alloc (.cells #[.string ⟨#[]⟩, .slice none 0 0] 28))) := hidI ⟨h2a w _ _, h2b w _ _, bel_trans (bel_alloc _ _) (bel_alloc _ _)⟩
  clear h
  have hF : readF t = some (mm.s, l) := by simp [readF, hg, hm, hk, hs, hq, hl]
  have FG : Hid (readG t = (mm.s, l)) := hidI (by simp [readG, hF])
  have FE : Hid (readE t = 0) := hidI (by simp [readE, hF])
  have HM := hidI hm
  have HQ := hidI hq
  have e1 : (mm.kind == 3) = true := by simp [hk]
  have e1n : (mm.kind != 3) = false := by simp [hk]
  have e2 : mm.s.isEmpty = false := by simp [hs]
  clear hF hm hk hs hq
  go_enter Try.func4, Try.ntmps4
  go_upto_region 6 with (first | (go_at_call 17; refine (good_is _ ok t _ (by exact H.out.bel K0.out.2.2)).mono ?_; rintro e w1 ⟨rfl, hb⟩; rw [hg]; have K1 := hidI (K0.out.bel hb); obtain ⟨t0, t1, t2, t3, t4, -⟩ := K1.out.1.c; obtain ⟨p0, p1⟩ := K1.out.2.1.c; obtain ⟨f0, f1⟩ := K1.out.2.1.cf; clear hb) | (go_at_call 18; refine (member_is _ ok t _ imageB (by exact H.out.bel K1.out.2.2)).mono ?_; rintro e w2 ⟨xm, bm, rfl, hb, hb2, m, hy, hyz⟩; obtain ⟨a5, b5, c5, d5, rfl⟩ := hy.form; rw [HM.out] at hb2 hyz; simp only [Option.isSome] at hb2; subst hb2; obtain rfl := hyz _ rfl; have Im := hidI (hy.bel (bel_alloc w2 (.cells #[.int .i64 m.kind, .int .i64 m.n, .string ⟨m.s.toArray⟩, .slice a5 m.keys.length c5, .slice b5 m.l.length d5] 25))); have Bm := hidI (show BoxIs (w2.alloc (.cells #[.int .i64 m.kind, .int .i64 m.n, .string ⟨m.s.toArray⟩, .slice a5 m.keys.length c5, .slice b5 m.l.length d5] 25)) w2.heap.size (.int .i64 m.kind) (.int .i64 m.n) (.string ⟨m.s.toArray⟩) (.slice a5 m.keys.length c5) (.slice b5 m.l.length d5) from heap_alloc_new w2 _); have K2 := hidI (K1.out.bel (bel_trans hb (bel_alloc w2 (.cells #[.int .i64 m.kind, .int .i64 m.n, .string ⟨m.s.toArray⟩, .slice a5 m.keys.length c5, .slice b5 m.l.length d5] 25)))); clear t0 t1 t2 t3 t4 p0 p1 f0 f1; obtain ⟨t0, t1, t2, t3, t4, -⟩ := K2.out.1.c; obtain ⟨p0, p1⟩ := K2.out.2.1.c; obtain ⟨f0, f1⟩ := K2.out.2.1.cf; obtain ⟨m0, m1, m2, m3, m4, -⟩ := Bm.out.c; clear hb hy hyz))
  go_wp2_with (first | (go_at_call 19; refine (readSteps_at _ ok q _ (by exact Iq.out)).mono ?_; rintro e w4 ⟨sl, rfl, hsl, hb⟩; rw [hl]; have K4 := hidI (K3.out.bel hb); have Bm4 := hidI (box_bel hb Bm3.out); have SL := hidI (hsl l hl); obtain ⟨a9, c9, rfl⟩ := SL.out.form; clear hsl; clear t0 t1 t2 t3 t4 p0 p1 f0 f1 m0 m1 m2 m3 m4 q0 q1 q2 q3 q4; obtain ⟨t0, t1, t2, t3, t4, -⟩ := K4.out.1.c; obtain ⟨p0, p1⟩ := K4.out.2.1.c; obtain ⟨f0, f1⟩ := K4.out.2.1.cf; obtain ⟨m0, m1, m2, m3, m4, -⟩ := Bm4.out.c; clear hb) | (go_at_call 18; refine (member_is _ ok t _ stepsB (by exact H.out.bel K2.out.2.2)).mono ?_; rintro e w3 ⟨xq, bq, rfl, hb, hb2, q, hy, hyz⟩; obtain ⟨a6, b6, c6, d6, rfl⟩ := hy.form; rw [HQ.out] at hb2 hyz; simp only [Option.isSome] at hb2; subst hb2; obtain rfl := hyz _ rfl; have Iq := hidI (hy.bel (bel_alloc w3 (.cells #[.int .i64 q.kind, .int .i64 q.n, .string ⟨q.s.toArray⟩, .slice a6 q.keys.length c6, .slice b6 q.l.length d6] 25))); have Bq := hidI (show BoxIs (w3.alloc (.cells #[.int .i64 q.kind, .int .i64 q.n, .string ⟨q.s.toArray⟩, .slice a6 q.keys.length c6, .slice b6 q.l.length d6] 25)) w3.heap.size (.int .i64 q.kind) (.int .i64 q.n) (.string ⟨q.s.toArray⟩) (.slice a6 q.keys.length c6) (.slice b6 q.l.length d6) from heap_alloc_new w3 _); have K3 := hidI (K2.out.bel (bel_trans hb (bel_alloc w3 (.cells #[.int .i64 q.kind, .int .i64 q.n, .string ⟨q.s.toArray⟩, .slice a6 q.keys.length c6, .slice b6 q.l.length d6] 25)))); have Bm3 := hidI (box_bel (bel_trans hb (bel_alloc w3 (.cells #[.int .i64 q.kind, .int .i64 q.n, .string ⟨q.s.toArray⟩, .slice a6 q.keys.length c6, .slice b6 q.l.length d6] 25))) Bm.out); clear m0 m1 m2 m3 m4; obtain ⟨m0, m1, m2, m3, m4, -⟩ := Bm3.out.c; clear t0 t1 t2 t3 t4 p0 p1 f0 f1; obtain ⟨t0, t1, t2, t3, t4, -⟩ := K3.out.1.c; obtain ⟨p0, p1⟩ := K3.out.2.1.c; obtain ⟨f0, f1⟩ := K3.out.2.1.cf; obtain ⟨q0, q1, q2, q3, q4, -⟩ := Bq.out.c; clear hb hy hyz))
  obtain ⟨z0, z1⟩ := (K4.out.2.1.set (m.s) (.slice a9 l.length c9)).c
  refine bodyPost_ret (v := .tuple #[.agg #[.string ⟨(m.s).toArray⟩, .slice a9 l.length c9], .int .i64 0]) ?_ rfl ⟨.slice a9 l.length c9, by rw [FG.out, FE.out], by rw [FG.out]; exact stps_far SL.out K4.out.2.1, bel_set (bel_set K4.out.2.2 (by omega) _ _) (by omega) _ _⟩
  simp [results, Try.results4, go_sem, z0, z1]

theorem read_at (w : World) (ok : Nat → Prop) (t : V) (v : Value) (h : In w ok t v) : Calls Try.prog 4 #[v] w fun e w' => ∃ sl, e = .returned (.tuple #[.agg #[.string ⟨(readG t).1.toArray⟩, sl], .int .i64 (readE t)]) ∧ StpsAre w' (readG t).2 sl ∧ Below w.heap.size w w' := by
  cases hg : goodV t with
  | false => exact read_bad w ok t v h hg
  | true =>
    cases hm : memV t imageB with
    | none => exact read_noimage w ok t v h hg hm
    | some m =>
      by_cases hk : m.kind = 3
      · by_cases hs : m.s = []
        · exact read_empty w ok t v h hg m hm hk hs
        · cases hq : memV t stepsB with
          | none => exact read_short w ok t v h hg m hm hk hs hq
          | some q =>
            cases hl : readStepsF q with
            | none => exact read_wrong w ok t v h hg m hm hk hs q hq hl
            | some l => exact read_right w ok t v h hg m hm hk hs q hq l hl
      · exact read_notext w ok t v h hg m hm hk
end Go.Proofs.Ytaaaogiheplbmaa
