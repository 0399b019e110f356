/- What ReadSpec of package stairwellref does. -/
import Derived.Test.YtaaaogiheplbmaaId
import Derived.Test.YtaaaogiheplbmaaFg
import Derived.Test.YtaaaogiheplbmaaFm
import Derived.Test.YtaaaogiheplbmaaHx
import Derived.Lib.AppendZeros
set_option linter.unusedSimpArgs false
set_option linter.unusedVariables false
namespace Go.Proofs.Ytaaaogiheplbmaa
open Go.RowKit

theorem stpCells_append : ∀ (l m : List Stp), stpCells (l ++ m) = stpCells l ++ stpCells m
  | [], m => rfl
  | x :: l, m => by simp [stpCells, stpCells_append l m]
theorem own_stps {w : World} {B : Nat} {v : Value} {xs : List Stp} {n : Nat} (h : w.ownsRow B 32 2 v n (stpCells xs)) (hn : n ≤ 9223372036854775807) : StpsAre w xs v := by
  have hl : xs.length = n := by have := h.1; rw [stpCells_length] at this; omega
  refine ⟨by omega, ?_⟩
  rcases h.2 with ⟨e, h0⟩ | ⟨g, cap, cur, e, h1, h2, h3, h4, h5, h6⟩
  · exact .inl ⟨List.eq_nil_of_length_eq_zero (by omega), none, e⟩
  · refine .inr ⟨g, 0, cap, by rw [hl]; exact e, by omega, h4, fun i x hx => ?_⟩
    obtain ⟨q1, q2⟩ := stpCells_at xs i x hx
    have r1 := h.cells (g := g) (by rw [e]; rfl) (i * 2) _ q1
    have r2 := h.cells (g := g) (by rw [e]; rfl) (i * 2 + 1) _ q2
    rw [saddr_add] at r1 r2
    exact ⟨r1, r2⟩
/- A step pushed onto a row of one's own. -/
theorem run_pushT (W : World) (B : Nat) (v : Value) (xs : List Stp) (n : Nat) (x : Stp) (h : W.ownsRow B 32 2 v n (stpCells xs)) (hn : n ≤ 1000) (hB : B ≤ W.heap.size) (ty : TypeId) :
    ∃ a' c' W', (Builtin.append_ #[26, 26] ty #[v, .slice (some ⟨W.heap.size, 0, none⟩) 1 1]).run Try.prog (W.alloc (.cells #[.int .i64 x.w, .int .i64 x.p] 32)) = .ok (.slice a' (n + 1) c') W' ∧ W'.ownsRow B 32 2 (.slice a' (n + 1) c') (n + 1) (stpCells (xs ++ [x])) ∧ W.grownBy W' v.ownBlock := by
  obtain ⟨i0, hi, hz0, hz1, hz2⟩ := sinfo_parts infoStep
  have hc : ∀ j u, (stpCells [x])[j]? = some u → (W.alloc (.cells #[.int .i64 x.w, .int .i64 x.p] 32)).cell? ((⟨W.heap.size, 0, none⟩ : Addr).add j) = some u := by
    have hb : (W.alloc (.cells #[.int .i64 x.w, .int .i64 x.p] 32)).heap[W.heap.size]? = some (.cells #[.int .i64 x.w, .int .i64 x.p] 32) := heap_alloc_new W _
    exact World.news_of_block (cs := #[.int .i64 x.w, .int .i64 x.p]) hb
  obtain ⟨v', W', hr, ho, hg, -, -⟩ := run_append_own_at (P := Try.prog) (W.alloc (.cells #[.int .i64 x.w, .int .i64 x.p] 32)) B 26 ty 32 i0 _ 2 16 Try.underlying26 hi hz0 hz1 hz2 rfl (by decide) v n (stpCells xs) (h.alloc _) ⟨W.heap.size, 0, none⟩ 1 1 (stpCells [x]) rfl hc (stpCells_one [x]) (by unfold maxLen; omega) (by omega) (by simp; omega)
  have hf : ∃ a' c', v' = .slice a' (n + 1) c' := by
    rcases ho.2 with ⟨e, h0⟩ | ⟨g, cap, cur, e, -⟩
    · omega
    · exact ⟨_, _, e⟩
  obtain ⟨a', c', rfl⟩ := hf
  rw [← stpCells_append] at ho
  exact ⟨a', c', W', hr, ho, gb_trans (World.grownBy_alloc W _ _) hg⟩

theorem step_num {t : V} (hk : t.kind = 2) (h1 : 0 ≤ t.n) (h2 : t.n ≤ 100) : readStepF t = some ⟨t.n, 0⟩ := by
  rw [readStepF, if_pos hk, if_pos (isW_iff.2 ⟨h1, h2⟩)]
theorem step_far {t : V} (hk : t.kind = 2) (h : t.n < 0 ∨ 100 < t.n) : readStepF t = none := by
  rw [readStepF, if_pos hk, if_neg (by rw [isW_iff]; omega)]
theorem step_none {t : V} (hk : t.kind ≠ 2) (hm : memV t pauseB = none) : readStepF t = none := by
  rw [readStepF, if_neg hk, hm]
theorem step_pause {t y : V} (hk : t.kind ≠ 2) (hm : memV t pauseB = some y) (h2 : y.kind = 2) (h3 : 0 ≤ y.n) (h4 : y.n ≤ 1099511627776) : readStepF t = some ⟨-1, y.n⟩ := by
  rw [readStepF, if_neg hk, hm]
  simp only
  rw [if_pos ⟨h2, isT_iff.2 ⟨h3, h4⟩⟩]
theorem step_other {t y : V} (hk : t.kind ≠ 2) (hm : memV t pauseB = some y) (h : y.kind ≠ 2 ∨ y.n < 0 ∨ 1099511627776 < y.n) : readStepF t = none := by
  rw [readStepF, if_neg hk, hm]
  simp only
  rw [if_neg (by rw [isT_iff]; omega)]
theorem mem_num {t : V} (hk : t.kind = 2) (key : List UInt8) : memV t key = none := by simp [memV, findV, pairedV, hk]
set_option maxRecDepth 100000 in
set_option maxHeartbeats 4000000 in
theorem rread_bad (w : World) (ok : Nat → Prop) (t : V) (v : Value) (h : In w ok t v) (h0 : ∀ k, ok k → k < w.heap.size) (hN : cnt t ≤ 1000000000000000) (hg : goodV t = false) : Calls Try.prog 6 #[v] w fun e w' => ∃ sl, e = .returned (.tuple #[.agg #[.string ⟨(readG t).1.toArray⟩, sl], .int .i64 (readE t)]) ∧ StpsAre w' (readG t).2 sl ∧ Below w.heap.size w w' := by
  have H := hidI h
  have HN := hidI hN
  obtain ⟨a1, b1, c1, d1, rfl⟩ := h.form
  have K0 : Hid (RD w t a1 b1 c1 d1 ((w.alloc (.cells #[.int .i64 t.kind, .int .i64 t.n, .string ⟨t.s.toArray⟩, .slice a1 t.keys.length c1, .slice b1 t.l.length d1] 25)).alloc (.cells #[.string ⟨#[]⟩, .slice none 0 0] 28))) := hidI ⟨h2a w _ _, h2b w _ _, bel_trans (bel_alloc _ _) (bel_alloc _ _)⟩
  clear h hN
  have hF : readF t = none := by rw [readF, if_pos hg]
  have FG : Hid (readG t = ([], [])) := hidI (by simp [readG, hF])
  have FE : Hid (readE t = 1) := hidI (by simp [readE, hF])
  clear hF
  cases hm : memV t imageB with
  | none =>
    have HM := hidI hm
    clear hm
    go_enter Try.func6, Try.ntmps6
    go_wp2_with (first | (go_at_call 21; refine (rgood_is _ ok t _ (by exact H.out.bel K1.out.2.2) HN.out).mono ?_; rintro e w2 ⟨rfl, hb⟩; rw [hg]; have K2 := hidI (K1.out.bel hb); have Bm2 := hidI (box_bel hb Bm.out); clear t0 t1 t2 t3 t4 p0 p1 f0 f1 m0 m1 m2 m3 m4; obtain ⟨t0, t1, t2, t3, t4, -⟩ := K2.out.1.c; obtain ⟨p0, p1⟩ := K2.out.2.1.c; obtain ⟨f0, f1⟩ := K2.out.2.1.cf; obtain ⟨m0, m1, m2, m3, m4, -⟩ := Bm2.out.c; clear hb) | (go_at_call 20; refine (rmember_is _ ok t _ imageB (by exact H.out.bel K0.out.2.2)).mono ?_; rintro e w1 ⟨xm, rfl, hb, hy⟩; obtain ⟨m, hm2⟩ : ∃ m, (memV t imageB).getD zeroT = m := ⟨_, rfl⟩; rw [hm2] at hy; obtain ⟨a5, b5, c5, d5, rfl⟩ := hy.form; rw [HM.out]; have Bm := hidI (show BoxIs (w1.alloc (.cells #[.int .i64 m.kind, .int .i64 m.n, .string ⟨m.s.toArray⟩, .slice a5 m.keys.length c5, .slice b5 m.l.length d5] 25)) w1.heap.size (.int .i64 m.kind) (.int .i64 m.n) (.string ⟨m.s.toArray⟩) (.slice a5 m.keys.length c5) (.slice b5 m.l.length d5) from heap_alloc_new w1 _); have K1 := hidI (K0.out.bel (bel_trans hb (bel_alloc w1 (.cells #[.int .i64 m.kind, .int .i64 m.n, .string ⟨m.s.toArray⟩, .slice a5 m.keys.length c5, .slice b5 m.l.length d5] 25)))); obtain ⟨t0, t1, t2, t3, t4, -⟩ := K1.out.1.c; obtain ⟨p0, p1⟩ := K1.out.2.1.c; obtain ⟨f0, f1⟩ := K1.out.2.1.cf; obtain ⟨m0, m1, m2, m3, m4, -⟩ := Bm.out.c; clear hb hy))
    obtain ⟨z0, z1⟩ := (K2.out.2.1.set [] (.slice none 0 0)).c
    refine bodyPost_ret (v := .tuple #[.agg #[.string ⟨#[]⟩, .slice none 0 0], .int .i64 1]) ?_ rfl ⟨.slice none 0 0, by rw [FG.out, FE.out], by rw [FG.out]; exact stps_nil2 _, bel_set (bel_set K2.out.2.2 (by omega) _ _) (by omega) _ _⟩
    simp [results, Try.results6, go_sem, z0, z1]
  | some mm =>
    have HM := hidI hm
    clear hm
    go_enter Try.func6, Try.ntmps6
    go_wp2_with (first | (go_at_call 21; refine (rgood_is _ ok t _ (by exact H.out.bel K1.out.2.2) HN.out).mono ?_; rintro e w2 ⟨rfl, hb⟩; rw [hg]; have K2 := hidI (K1.out.bel hb); have Bm2 := hidI (box_bel hb Bm.out); clear t0 t1 t2 t3 t4 p0 p1 f0 f1 m0 m1 m2 m3 m4; obtain ⟨t0, t1, t2, t3, t4, -⟩ := K2.out.1.c; obtain ⟨p0, p1⟩ := K2.out.2.1.c; obtain ⟨f0, f1⟩ := K2.out.2.1.cf; obtain ⟨m0, m1, m2, m3, m4, -⟩ := Bm2.out.c; clear hb) | (go_at_call 20; refine (rmember_is _ ok t _ imageB (by exact H.out.bel K0.out.2.2)).mono ?_; rintro e w1 ⟨xm, rfl, hb, hy⟩; obtain ⟨m, hm2⟩ : ∃ m, (memV t imageB).getD zeroT = m := ⟨_, rfl⟩; rw [hm2] at hy; obtain ⟨a5, b5, c5, d5, rfl⟩ := hy.form; rw [HM.out] at hm2; simp only [Option.getD] at hm2; rw [HM.out]; replace hm2 := hm2.symm; subst hm2; have Bm := hidI (show BoxIs (w1.alloc (.cells #[.int .i64 m.kind, .int .i64 m.n, .string ⟨m.s.toArray⟩, .slice a5 m.keys.length c5, .slice b5 m.l.length d5] 25)) w1.heap.size (.int .i64 m.kind) (.int .i64 m.n) (.string ⟨m.s.toArray⟩) (.slice a5 m.keys.length c5) (.slice b5 m.l.length d5) from heap_alloc_new w1 _); have K1 := hidI (K0.out.bel (bel_trans hb (bel_alloc w1 (.cells #[.int .i64 m.kind, .int .i64 m.n, .string ⟨m.s.toArray⟩, .slice a5 m.keys.length c5, .slice b5 m.l.length d5] 25)))); obtain ⟨t0, t1, t2, t3, t4, -⟩ := K1.out.1.c; obtain ⟨p0, p1⟩ := K1.out.2.1.c; obtain ⟨f0, f1⟩ := K1.out.2.1.cf; obtain ⟨m0, m1, m2, m3, m4, -⟩ := Bm.out.c; clear hb hy))
    obtain ⟨z0, z1⟩ := (K2.out.2.1.set [] (.slice none 0 0)).c
    refine bodyPost_ret (v := .tuple #[.agg #[.string ⟨#[]⟩, .slice none 0 0], .int .i64 1]) ?_ rfl ⟨.slice none 0 0, by rw [FG.out, FE.out], by rw [FG.out]; exact stps_nil2 _, bel_set (bel_set K2.out.2.2 (by omega) _ _) (by omega) _ _⟩
    simp [results, Try.results6, go_sem, z0, z1]
set_option maxRecDepth 100000 in
set_option maxHeartbeats 4000000 in
theorem rread_noimage (w : World) (ok : Nat → Prop) (t : V) (v : Value) (h : In w ok t v) (h0 : ∀ k, ok k → k < w.heap.size) (hN : cnt t ≤ 1000000000000000) (hg : goodV t = true) (hm : memV t imageB = none) : Calls Try.prog 6 #[v] w fun e w' => ∃ sl, e = .returned (.tuple #[.agg #[.string ⟨(readG t).1.toArray⟩, sl], .int .i64 (readE t)]) ∧ StpsAre w' (readG t).2 sl ∧ Below w.heap.size w w' := by
  have H := hidI h
  have HN := hidI hN
  obtain ⟨a1, b1, c1, d1, rfl⟩ := h.form
  have K0 : Hid (RD w t a1 b1 c1 d1 ((w.alloc (.cells #[.int .i64 t.kind, .int .i64 t.n, .string ⟨t.s.toArray⟩, .slice a1 t.keys.length c1, .slice b1 t.l.length d1] 25)).alloc (.cells #[.string ⟨#[]⟩, .slice none 0 0] 28))) := hidI ⟨h2a w _ _, h2b w _ _, bel_trans (bel_alloc _ _) (bel_alloc _ _)⟩
  clear h hN
  have hF : readF t = none := by simp [readF, hg, hm]
  have FG : Hid (readG t = ([], [])) := hidI (by simp [readG, hF])
  have FE : Hid (readE t = 1) := hidI (by simp [readE, hF])
  have HM := hidI hm
  clear hF hm
  go_enter Try.func6, Try.ntmps6
  go_wp2_with (first | (go_at_call 21; refine (rgood_is _ ok t _ (by exact H.out.bel K1.out.2.2) HN.out).mono ?_; rintro e w2 ⟨rfl, hb⟩; rw [hg]; have K2 := hidI (K1.out.bel hb); have Bm2 := hidI (box_bel hb Bm.out); clear t0 t1 t2 t3 t4 p0 p1 f0 f1 m0 m1 m2 m3 m4; obtain ⟨t0, t1, t2, t3, t4, -⟩ := K2.out.1.c; obtain ⟨p0, p1⟩ := K2.out.2.1.c; obtain ⟨f0, f1⟩ := K2.out.2.1.cf; obtain ⟨m0, m1, m2, m3, m4, -⟩ := Bm2.out.c; clear hb) | (go_at_call 20; refine (rmember_is _ ok t _ imageB (by exact H.out.bel K0.out.2.2)).mono ?_; rintro e w1 ⟨xm, rfl, hb, hy⟩; obtain ⟨m, hm2⟩ : ∃ m, (memV t imageB).getD zeroT = m := ⟨_, rfl⟩; rw [hm2] at hy; obtain ⟨a5, b5, c5, d5, rfl⟩ := hy.form; rw [HM.out]; have Bm := hidI (show BoxIs (w1.alloc (.cells #[.int .i64 m.kind, .int .i64 m.n, .string ⟨m.s.toArray⟩, .slice a5 m.keys.length c5, .slice b5 m.l.length d5] 25)) w1.heap.size (.int .i64 m.kind) (.int .i64 m.n) (.string ⟨m.s.toArray⟩) (.slice a5 m.keys.length c5) (.slice b5 m.l.length d5) from heap_alloc_new w1 _); have K1 := hidI (K0.out.bel (bel_trans hb (bel_alloc w1 (.cells #[.int .i64 m.kind, .int .i64 m.n, .string ⟨m.s.toArray⟩, .slice a5 m.keys.length c5, .slice b5 m.l.length d5] 25)))); obtain ⟨t0, t1, t2, t3, t4, -⟩ := K1.out.1.c; obtain ⟨p0, p1⟩ := K1.out.2.1.c; obtain ⟨f0, f1⟩ := K1.out.2.1.cf; obtain ⟨m0, m1, m2, m3, m4, -⟩ := Bm.out.c; clear hb hy))
  obtain ⟨z0, z1⟩ := (K2.out.2.1.set [] (.slice none 0 0)).c
  refine bodyPost_ret (v := .tuple #[.agg #[.string ⟨#[]⟩, .slice none 0 0], .int .i64 1]) ?_ rfl ⟨.slice none 0 0, by rw [FG.out, FE.out], by rw [FG.out]; exact stps_nil2 _, bel_set (bel_set K2.out.2.2 (by omega) _ _) (by omega) _ _⟩
  simp [results, Try.results6, go_sem, z0, z1]
set_option maxRecDepth 100000 in
set_option maxHeartbeats 4000000 in
theorem rread_notext (w : World) (ok : Nat → Prop) (t : V) (v : Value) (h : In w ok t v) (h0 : ∀ k, ok k → k < w.heap.size) (hN : cnt t ≤ 1000000000000000) (hg : goodV t = true) (mm : V) (hm : memV t imageB = some mm) (hk : mm.kind ≠ 3) : Calls Try.prog 6 #[v] w fun e w' => ∃ sl, e = .returned (.tuple #[.agg #[.string ⟨(readG t).1.toArray⟩, sl], .int .i64 (readE t)]) ∧ StpsAre w' (readG t).2 sl ∧ Below w.heap.size w w' := by
  have H := hidI h
  have HN := hidI hN
  obtain ⟨a1, b1, c1, d1, rfl⟩ := h.form
  have K0 : Hid (RD w t a1 b1 c1 d1 ((w.alloc (.cells #[.int .i64 t.kind, .int .i64 t.n, .string ⟨t.s.toArray⟩, .slice a1 t.keys.length c1, .slice b1 t.l.length d1] 25)).alloc (.cells #[.string ⟨#[]⟩, .slice none 0 0] 28))) := hidI ⟨h2a w _ _, h2b w _ _, bel_trans (bel_alloc _ _) (bel_alloc _ _)⟩
  clear h hN
  have hF : readF t = none := by simp [readF, hg, hm, hk]
  have FG : Hid (readG t = ([], [])) := hidI (by simp [readG, hF])
  have FE : Hid (readE t = 1) := hidI (by simp [readE, hF])
  have HM := hidI hm
  have e1 : (mm.kind == 3) = false := by simp [hk]
  have e1n : (mm.kind != 3) = true := by simp [hk]
  clear hF hm hk
  go_enter Try.func6, Try.ntmps6
  go_wp2_with (first | (go_at_call 21; refine (rgood_is _ ok t _ (by exact H.out.bel K1.out.2.2) HN.out).mono ?_; rintro e w2 ⟨rfl, hb⟩; rw [hg]; have K2 := hidI (K1.out.bel hb); have Bm2 := hidI (box_bel hb Bm.out); clear t0 t1 t2 t3 t4 p0 p1 f0 f1 m0 m1 m2 m3 m4; obtain ⟨t0, t1, t2, t3, t4, -⟩ := K2.out.1.c; obtain ⟨p0, p1⟩ := K2.out.2.1.c; obtain ⟨f0, f1⟩ := K2.out.2.1.cf; obtain ⟨m0, m1, m2, m3, m4, -⟩ := Bm2.out.c; clear hb) | (go_at_call 20; refine (rmember_is _ ok t _ imageB (by exact H.out.bel K0.out.2.2)).mono ?_; rintro e w1 ⟨xm, rfl, hb, hy⟩; obtain ⟨m, hm2⟩ : ∃ m, (memV t imageB).getD zeroT = m := ⟨_, rfl⟩; rw [hm2] at hy; obtain ⟨a5, b5, c5, d5, rfl⟩ := hy.form; rw [HM.out] at hm2; simp only [Option.getD] at hm2; rw [HM.out]; replace hm2 := hm2.symm; subst hm2; have Bm := hidI (show BoxIs (w1.alloc (.cells #[.int .i64 m.kind, .int .i64 m.n, .string ⟨m.s.toArray⟩, .slice a5 m.keys.length c5, .slice b5 m.l.length d5] 25)) w1.heap.size (.int .i64 m.kind) (.int .i64 m.n) (.string ⟨m.s.toArray⟩) (.slice a5 m.keys.length c5) (.slice b5 m.l.length d5) from heap_alloc_new w1 _); have K1 := hidI (K0.out.bel (bel_trans hb (bel_alloc w1 (.cells #[.int .i64 m.kind, .int .i64 m.n, .string ⟨m.s.toArray⟩, .slice a5 m.keys.length c5, .slice b5 m.l.length d5] 25)))); obtain ⟨t0, t1, t2, t3, t4, -⟩ := K1.out.1.c; obtain ⟨p0, p1⟩ := K1.out.2.1.c; obtain ⟨f0, f1⟩ := K1.out.2.1.cf; obtain ⟨m0, m1, m2, m3, m4, -⟩ := Bm.out.c; clear hb hy))
  obtain ⟨z0, z1⟩ := (K2.out.2.1.set [] (.slice none 0 0)).c
  refine bodyPost_ret (v := .tuple #[.agg #[.string ⟨#[]⟩, .slice none 0 0], .int .i64 1]) ?_ rfl ⟨.slice none 0 0, by rw [FG.out, FE.out], by rw [FG.out]; exact stps_nil2 _, bel_set (bel_set K2.out.2.2 (by omega) _ _) (by omega) _ _⟩
  simp [results, Try.results6, go_sem, z0, z1]
set_option maxRecDepth 100000 in
set_option maxHeartbeats 4000000 in
theorem rread_empty (w : World) (ok : Nat → Prop) (t : V) (v : Value) (h : In w ok t v) (h0 : ∀ k, ok k → k < w.heap.size) (hN : cnt t ≤ 1000000000000000) (hg : goodV t = true) (mm : V) (hm : memV t imageB = some mm) (hk : mm.kind = 3) (hs : mm.s = []) : Calls Try.prog 6 #[v] w fun e w' => ∃ sl, e = .returned (.tuple #[.agg #[.string ⟨(readG t).1.toArray⟩, sl], .int .i64 (readE t)]) ∧ StpsAre w' (readG t).2 sl ∧ Below w.heap.size w w' := by
  have H := hidI h
  have HN := hidI hN
  obtain ⟨a1, b1, c1, d1, rfl⟩ := h.form
  have K0 : Hid (RD w t a1 b1 c1 d1 ((w.alloc (.cells #[.int .i64 t.kind, .int .i64 t.n, .string ⟨t.s.toArray⟩, .slice a1 t.keys.length c1, .slice b1 t.l.length d1] 25)).alloc (.cells #[.string ⟨#[]⟩, .slice none 0 0] 28))) := hidI ⟨h2a w _ _, h2b w _ _, bel_trans (bel_alloc _ _) (bel_alloc _ _)⟩
  clear h hN
  have hF : readF t = none := by simp [readF, hg, hm, hk, hs]
  have FG : Hid (readG t = ([], [])) := hidI (by simp [readG, hF])
  have FE : Hid (readE t = 1) := hidI (by simp [readE, hF])
  have HM := hidI hm
  have e1 : (mm.kind == 3) = true := by simp [hk]
  have e1n : (mm.kind != 3) = false := by simp [hk]
  have e2 : mm.s.isEmpty = true := by simp [hs]
  clear hF hm hk hs
  go_enter Try.func6, Try.ntmps6
  go_wp2_with (first | (go_at_call 21; refine (rgood_is _ ok t _ (by exact H.out.bel K1.out.2.2) HN.out).mono ?_; rintro e w2 ⟨rfl, hb⟩; rw [hg]; have K2 := hidI (K1.out.bel hb); have Bm2 := hidI (box_bel hb Bm.out); clear t0 t1 t2 t3 t4 p0 p1 f0 f1 m0 m1 m2 m3 m4; obtain ⟨t0, t1, t2, t3, t4, -⟩ := K2.out.1.c; obtain ⟨p0, p1⟩ := K2.out.2.1.c; obtain ⟨f0, f1⟩ := K2.out.2.1.cf; obtain ⟨m0, m1, m2, m3, m4, -⟩ := Bm2.out.c; clear hb) | (go_at_call 20; refine (rmember_is _ ok t _ imageB (by exact H.out.bel K0.out.2.2)).mono ?_; rintro e w1 ⟨xm, rfl, hb, hy⟩; obtain ⟨m, hm2⟩ : ∃ m, (memV t imageB).getD zeroT = m := ⟨_, rfl⟩; rw [hm2] at hy; obtain ⟨a5, b5, c5, d5, rfl⟩ := hy.form; rw [HM.out] at hm2; simp only [Option.getD] at hm2; rw [HM.out]; replace hm2 := hm2.symm; subst hm2; have Bm := hidI (show BoxIs (w1.alloc (.cells #[.int .i64 m.kind, .int .i64 m.n, .string ⟨m.s.toArray⟩, .slice a5 m.keys.length c5, .slice b5 m.l.length d5] 25)) w1.heap.size (.int .i64 m.kind) (.int .i64 m.n) (.string ⟨m.s.toArray⟩) (.slice a5 m.keys.length c5) (.slice b5 m.l.length d5) from heap_alloc_new w1 _); have K1 := hidI (K0.out.bel (bel_trans hb (bel_alloc w1 (.cells #[.int .i64 m.kind, .int .i64 m.n, .string ⟨m.s.toArray⟩, .slice a5 m.keys.length c5, .slice b5 m.l.length d5] 25)))); obtain ⟨t0, t1, t2, t3, t4, -⟩ := K1.out.1.c; obtain ⟨p0, p1⟩ := K1.out.2.1.c; obtain ⟨f0, f1⟩ := K1.out.2.1.cf; obtain ⟨m0, m1, m2, m3, m4, -⟩ := Bm.out.c; clear hb hy))
  obtain ⟨z0, z1⟩ := (K2.out.2.1.set [] (.slice none 0 0)).c
  refine bodyPost_ret (v := .tuple #[.agg #[.string ⟨#[]⟩, .slice none 0 0], .int .i64 1]) ?_ rfl ⟨.slice none 0 0, by rw [FG.out, FE.out], by rw [FG.out]; exact stps_nil2 _, bel_set (bel_set K2.out.2.2 (by omega) _ _) (by omega) _ _⟩
  simp [results, Try.results6, go_sem, z0, z1]
theorem RD.big {w wS : World} {t : V} {a1 b1 : Option Addr} {c1 d1 : Nat} (h : RD w t a1 b1 c1 d1 wS) : w.heap.size + 2 ≤ wS.heap.size := by
  have h2 : wS.heap[w.heap.size + 1]? = _ := h.2.1
  have := (Array.getElem?_eq_some_iff.1 h2).1
  omega
theorem RD.grown {w wS w' : World} {t : V} {a1 b1 : Option Addr} {c1 d1 : Nat} {r : Option Nat} (h : RD w t a1 b1 c1 d1 wS) (hg : wS.grownBy w' r) (hr : ∀ k, r = some k → w.heap.size + 2 ≤ k) : RD w t a1 b1 c1 d1 w' := by
  have hbig := h.big
  refine ⟨h.1.grown hg (fun e => by have := hr _ e.symm; omega), ?_, ?_⟩
  · exact (hg.block _ (by omega) (fun e => by have := hr _ e.symm; omega)).trans h.2.1
  · have hb := h.2.2
    exact ⟨hg.os.trans hb.os, hg.tape.trans hb.tape, hg.output.trans hb.output, Nat.le_trans hb.size hg.size, fun j hj => (hg.block j (by omega) (fun e => by have := hr _ e.symm; omega)).trans (hb.block j hj)⟩
set_option maxRecDepth 100000 in
set_option maxHeartbeats 4000000 in
theorem rread_kind (w : World) (ok : Nat → Prop) (t : V) (v : Value) (h : In w ok t v) (h0 : ∀ k, ok k → k < w.heap.size) (hN : cnt t ≤ 1000000000000000) (hg : goodV t = true) (mm : V) (hm : memV t imageB = some mm) (hk : mm.kind = 3) (hs : mm.s ≠ []) (q : V) (hq : memV t stepsB = some q) (hq4 : q.kind ≠ 4) : Calls Try.prog 6 #[v] w fun e w' => ∃ sl, e = .returned (.tuple #[.agg #[.string ⟨(readG t).1.toArray⟩, sl], .int .i64 (readE t)]) ∧ StpsAre w' (readG t).2 sl ∧ Below w.heap.size w w' := by
  have H := hidI h
  have HN := hidI hN
  obtain ⟨a1, b1, c1, d1, rfl⟩ := h.form
  have K0 : Hid (RD w t a1 b1 c1 d1 ((w.alloc (.cells #[.int .i64 t.kind, .int .i64 t.n, .string ⟨t.s.toArray⟩, .slice a1 t.keys.length c1, .slice b1 t.l.length d1] 25)).alloc (.cells #[.string ⟨#[]⟩, .slice none 0 0] 28))) := hidI ⟨h2a w _ _, h2b w _ _, bel_trans (bel_alloc _ _) (bel_alloc _ _)⟩
  clear h hN
  have hF : readF t = none := by simp [readF, hg, hm, hk, hs, hq, readStepsF, hq4]
  have FG : Hid (readG t = ([], [])) := hidI (by simp [readG, hF])
  have FE : Hid (readE t = 1) := hidI (by simp [readE, hF])
  have HQ : Hid ((memV t stepsB).getD zeroT = q ∧ (memV t stepsB).isSome = true) := hidI (by rw [hq]; exact ⟨rfl, rfl⟩)
  have e3 : (q.kind == 4) = false := by simp [hq4]
  have e3n : (q.kind != 4) = true := by simp [hq4]
  clear hq hq4
  have HM := hidI hm
  have e1 : (mm.kind == 3) = true := by simp [hk]
  have e1n : (mm.kind != 3) = false := by simp [hk]
  have e2 : mm.s.isEmpty = false := by simp [hs]
  clear hF hm hk hs
  go_enter Try.func6, Try.ntmps6
  go_upto_region 5 with (first | (go_at_call 21; refine (rgood_is _ ok t _ (by exact H.out.bel K1.out.2.2) HN.out).mono ?_; rintro e w2 ⟨rfl, hb⟩; rw [hg]; have K2 := hidI (K1.out.bel hb); have Bm2 := hidI (box_bel hb Bm.out); clear t0 t1 t2 t3 t4 p0 p1 f0 f1 m0 m1 m2 m3 m4; obtain ⟨t0, t1, t2, t3, t4, -⟩ := K2.out.1.c; obtain ⟨p0, p1⟩ := K2.out.2.1.c; obtain ⟨f0, f1⟩ := K2.out.2.1.cf; obtain ⟨m0, m1, m2, m3, m4, -⟩ := Bm2.out.c; clear hb) | (go_at_call 20; refine (rmember_is _ ok t _ imageB (by exact H.out.bel K0.out.2.2)).mono ?_; rintro e w1 ⟨xm, rfl, hb, hy⟩; obtain ⟨m, hm2⟩ : ∃ m, (memV t imageB).getD zeroT = m := ⟨_, rfl⟩; rw [hm2] at hy; obtain ⟨a5, b5, c5, d5, rfl⟩ := hy.form; rw [HM.out] at hm2; simp only [Option.getD] at hm2; rw [HM.out]; replace hm2 := hm2.symm; subst hm2; have Bm := hidI (show BoxIs (w1.alloc (.cells #[.int .i64 m.kind, .int .i64 m.n, .string ⟨m.s.toArray⟩, .slice a5 m.keys.length c5, .slice b5 m.l.length d5] 25)) w1.heap.size (.int .i64 m.kind) (.int .i64 m.n) (.string ⟨m.s.toArray⟩) (.slice a5 m.keys.length c5) (.slice b5 m.l.length d5) from heap_alloc_new w1 _); have K1 := hidI (K0.out.bel (bel_trans hb (bel_alloc w1 (.cells #[.int .i64 m.kind, .int .i64 m.n, .string ⟨m.s.toArray⟩, .slice a5 m.keys.length c5, .slice b5 m.l.length d5] 25)))); obtain ⟨t0, t1, t2, t3, t4, -⟩ := K1.out.1.c; obtain ⟨p0, p1⟩ := K1.out.2.1.c; obtain ⟨f0, f1⟩ := K1.out.2.1.cf; obtain ⟨m0, m1, m2, m3, m4, -⟩ := Bm.out.c; clear hb hy))
  have K2a := hidI (K2.out.bel (bel_alloc w2 (.cells #[.string ⟨m.s.toArray⟩, .slice none 0 0] 28)))
  clear t0 t1 t2 t3 t4 p0 p1 f0 f1 m0 m1 m2 m3 m4
  obtain ⟨t0, t1, t2, t3, t4, -⟩ := K2a.out.1.c
  obtain ⟨p0, p1⟩ := K2a.out.2.1.c
  obtain ⟨f0, f1⟩ := K2a.out.2.1.cf
  go_wp2_with (go_at_call 20; refine (rmember_is _ ok t _ stepsB (by exact H.out.bel (bel_trans K2.out.2.2 (bel_alloc w2 (.cells #[.string ⟨m.s.toArray⟩, .slice none 0 0] 28))))).mono ?_; rintro e w3 ⟨xq, rfl, hb, hy⟩; rw [HQ.out.1] at hy; obtain ⟨a6, b6, c6, d6, rfl⟩ := hy.form; rw [HQ.out.2]; have Bq := hidI (show BoxIs (w3.alloc (.cells #[.int .i64 q.kind, .int .i64 q.n, .string ⟨q.s.toArray⟩, .slice a6 q.keys.length c6, .slice b6 q.l.length d6] 25)) w3.heap.size (.int .i64 q.kind) (.int .i64 q.n) (.string ⟨q.s.toArray⟩) (.slice a6 q.keys.length c6) (.slice b6 q.l.length d6) from heap_alloc_new w3 _); have hbb := bel_trans (bel_alloc w2 (.cells #[.string ⟨m.s.toArray⟩, .slice none 0 0] 28)) (bel_trans hb (bel_alloc w3 (.cells #[.int .i64 q.kind, .int .i64 q.n, .string ⟨q.s.toArray⟩, .slice a6 q.keys.length c6, .slice b6 q.l.length d6] 25))); have K3 := hidI (K2.out.bel hbb); have Sb := hidI ((show PBox (w2.alloc (.cells #[.string ⟨m.s.toArray⟩, .slice none 0 0] 28)) w2.heap.size m.s (.slice none 0 0) from heap_alloc_new w2 _).bel (bel_trans hb (bel_alloc w3 (.cells #[.int .i64 q.kind, .int .i64 q.n, .string ⟨q.s.toArray⟩, .slice a6 q.keys.length c6, .slice b6 q.l.length d6] 25)))); have Iq := hidI (hy.bel (bel_alloc w3 (.cells #[.int .i64 q.kind, .int .i64 q.n, .string ⟨q.s.toArray⟩, .slice a6 q.keys.length c6, .slice b6 q.l.length d6] 25))); have GS := hidI (show w.heap.size + 2 ≤ w2.heap.size ∧ w2.heap.size < w3.heap.size from ⟨K2.out.big, by have := hb.size; simp at this; omega⟩); clear t0 t1 t2 t3 t4 p0 p1 f0 f1; obtain ⟨t0, t1, t2, t3, t4, -⟩ := K3.out.1.c; obtain ⟨p0, p1⟩ := K3.out.2.1.c; obtain ⟨f0, f1⟩ := K3.out.2.1.cf; obtain ⟨q0, q1, q2, q3, q4, -⟩ := Bq.out.c; obtain ⟨s0, s1⟩ := Sb.out.c; obtain ⟨u0, u1⟩ := Sb.out.cf; clear hb hy hbb)
  obtain ⟨z0, z1⟩ := (K3.out.2.1.set [] (.slice none 0 0)).c
  refine bodyPost_ret (v := .tuple #[.agg #[.string ⟨#[]⟩, .slice none 0 0], .int .i64 1]) ?_ rfl ⟨.slice none 0 0, by rw [FG.out, FE.out], by rw [FG.out]; exact stps_nil2 _, bel_set (bel_set K3.out.2.2 (by omega) _ _) (by omega) _ _⟩
  simp [results, Try.results6, go_sem, z0, z1]
set_option maxRecDepth 100000 in
set_option maxHeartbeats 4000000 in
theorem rread_long (w : World) (ok : Nat → Prop) (t : V) (v : Value) (h : In w ok t v) (h0 : ∀ k, ok k → k < w.heap.size) (hN : cnt t ≤ 1000000000000000) (hg : goodV t = true) (mm : V) (hm : memV t imageB = some mm) (hk : mm.kind = 3) (hs : mm.s ≠ []) (q : V) (hq : memV t stepsB = some q) (hq4 : q.kind = 4) (h8 : 8 < q.l.length) : Calls Try.prog 6 #[v] w fun e w' => ∃ sl, e = .returned (.tuple #[.agg #[.string ⟨(readG t).1.toArray⟩, sl], .int .i64 (readE t)]) ∧ StpsAre w' (readG t).2 sl ∧ Below w.heap.size w w' := by
  have H := hidI h
  have HN := hidI hN
  obtain ⟨a1, b1, c1, d1, rfl⟩ := h.form
  have K0 : Hid (RD w t a1 b1 c1 d1 ((w.alloc (.cells #[.int .i64 t.kind, .int .i64 t.n, .string ⟨t.s.toArray⟩, .slice a1 t.keys.length c1, .slice b1 t.l.length d1] 25)).alloc (.cells #[.string ⟨#[]⟩, .slice none 0 0] 28))) := hidI ⟨h2a w _ _, h2b w _ _, bel_trans (bel_alloc _ _) (bel_alloc _ _)⟩
  clear h hN
  have hF : readF t = none := by simp [readF, hg, hm, hk, hs, hq, readStepsF, hq4, h8]
  have FG : Hid (readG t = ([], [])) := hidI (by simp [readG, hF])
  have FE : Hid (readE t = 1) := hidI (by simp [readE, hF])
  have HQ : Hid ((memV t stepsB).getD zeroT = q ∧ (memV t stepsB).isSome = true) := hidI (by rw [hq]; exact ⟨rfl, rfl⟩)
  have e3 : (q.kind == 4) = true := by simp [hq4]
  have e3n : (q.kind != 4) = false := by simp [hq4]
  have e4 : 8 < (q.l.length : Int) := by omega
  clear hq hq4
  have HM := hidI hm
  have e1 : (mm.kind == 3) = true := by simp [hk]
  have e1n : (mm.kind != 3) = false := by simp [hk]
  have e2 : mm.s.isEmpty = false := by simp [hs]
  clear hF hm hk hs
  go_enter Try.func6, Try.ntmps6
  go_upto_region 5 with (first | (go_at_call 21; refine (rgood_is _ ok t _ (by exact H.out.bel K1.out.2.2) HN.out).mono ?_; rintro e w2 ⟨rfl, hb⟩; rw [hg]; have K2 := hidI (K1.out.bel hb); have Bm2 := hidI (box_bel hb Bm.out); clear t0 t1 t2 t3 t4 p0 p1 f0 f1 m0 m1 m2 m3 m4; obtain ⟨t0, t1, t2, t3, t4, -⟩ := K2.out.1.c; obtain ⟨p0, p1⟩ := K2.out.2.1.c; obtain ⟨f0, f1⟩ := K2.out.2.1.cf; obtain ⟨m0, m1, m2, m3, m4, -⟩ := Bm2.out.c; clear hb) | (go_at_call 20; refine (rmember_is _ ok t _ imageB (by exact H.out.bel K0.out.2.2)).mono ?_; rintro e w1 ⟨xm, rfl, hb, hy⟩; obtain ⟨m, hm2⟩ : ∃ m, (memV t imageB).getD zeroT = m := ⟨_, rfl⟩; rw [hm2] at hy; obtain ⟨a5, b5, c5, d5, rfl⟩ := hy.form; rw [HM.out] at hm2; simp only [Option.getD] at hm2; rw [HM.out]; replace hm2 := hm2.symm; subst hm2; have Bm := hidI (show BoxIs (w1.alloc (.cells #[.int .i64 m.kind, .int .i64 m.n, .string ⟨m.s.toArray⟩, .slice a5 m.keys.length c5, .slice b5 m.l.length d5] 25)) w1.heap.size (.int .i64 m.kind) (.int .i64 m.n) (.string ⟨m.s.toArray⟩) (.slice a5 m.keys.length c5) (.slice b5 m.l.length d5) from heap_alloc_new w1 _); have K1 := hidI (K0.out.bel (bel_trans hb (bel_alloc w1 (.cells #[.int .i64 m.kind, .int .i64 m.n, .string ⟨m.s.toArray⟩, .slice a5 m.keys.length c5, .slice b5 m.l.length d5] 25)))); obtain ⟨t0, t1, t2, t3, t4, -⟩ := K1.out.1.c; obtain ⟨p0, p1⟩ := K1.out.2.1.c; obtain ⟨f0, f1⟩ := K1.out.2.1.cf; obtain ⟨m0, m1, m2, m3, m4, -⟩ := Bm.out.c; clear hb hy))
  have K2a := hidI (K2.out.bel (bel_alloc w2 (.cells #[.string ⟨m.s.toArray⟩, .slice none 0 0] 28)))
  clear t0 t1 t2 t3 t4 p0 p1 f0 f1 m0 m1 m2 m3 m4
  obtain ⟨t0, t1, t2, t3, t4, -⟩ := K2a.out.1.c
  obtain ⟨p0, p1⟩ := K2a.out.2.1.c
  obtain ⟨f0, f1⟩ := K2a.out.2.1.cf
  go_wp2_with (go_at_call 20; refine (rmember_is _ ok t _ stepsB (by exact H.out.bel (bel_trans K2.out.2.2 (bel_alloc w2 (.cells #[.string ⟨m.s.toArray⟩, .slice none 0 0] 28))))).mono ?_; rintro e w3 ⟨xq, rfl, hb, hy⟩; rw [HQ.out.1] at hy; obtain ⟨a6, b6, c6, d6, rfl⟩ := hy.form; rw [HQ.out.2]; have Bq := hidI (show BoxIs (w3.alloc (.cells #[.int .i64 q.kind, .int .i64 q.n, .string ⟨q.s.toArray⟩, .slice a6 q.keys.length c6, .slice b6 q.l.length d6] 25)) w3.heap.size (.int .i64 q.kind) (.int .i64 q.n) (.string ⟨q.s.toArray⟩) (.slice a6 q.keys.length c6) (.slice b6 q.l.length d6) from heap_alloc_new w3 _); have hbb := bel_trans (bel_alloc w2 (.cells #[.string ⟨m.s.toArray⟩, .slice none 0 0] 28)) (bel_trans hb (bel_alloc w3 (.cells #[.int .i64 q.kind, .int .i64 q.n, .string ⟨q.s.toArray⟩, .slice a6 q.keys.length c6, .slice b6 q.l.length d6] 25))); have K3 := hidI (K2.out.bel hbb); have Sb := hidI ((show PBox (w2.alloc (.cells #[.string ⟨m.s.toArray⟩, .slice none 0 0] 28)) w2.heap.size m.s (.slice none 0 0) from heap_alloc_new w2 _).bel (bel_trans hb (bel_alloc w3 (.cells #[.int .i64 q.kind, .int .i64 q.n, .string ⟨q.s.toArray⟩, .slice a6 q.keys.length c6, .slice b6 q.l.length d6] 25)))); have Iq := hidI (hy.bel (bel_alloc w3 (.cells #[.int .i64 q.kind, .int .i64 q.n, .string ⟨q.s.toArray⟩, .slice a6 q.keys.length c6, .slice b6 q.l.length d6] 25))); have GS := hidI (show w.heap.size + 2 ≤ w2.heap.size ∧ w2.heap.size < w3.heap.size from ⟨K2.out.big, by have := hb.size; simp at this; omega⟩); clear t0 t1 t2 t3 t4 p0 p1 f0 f1; obtain ⟨t0, t1, t2, t3, t4, -⟩ := K3.out.1.c; obtain ⟨p0, p1⟩ := K3.out.2.1.c; obtain ⟨f0, f1⟩ := K3.out.2.1.cf; obtain ⟨q0, q1, q2, q3, q4, -⟩ := Bq.out.c; obtain ⟨s0, s1⟩ := Sb.out.c; obtain ⟨u0, u1⟩ := Sb.out.cf; clear hb hy hbb)
  obtain ⟨z0, z1⟩ := (K3.out.2.1.set [] (.slice none 0 0)).c
  refine bodyPost_ret (v := .tuple #[.agg #[.string ⟨#[]⟩, .slice none 0 0], .int .i64 1]) ?_ rfl ⟨.slice none 0 0, by rw [FG.out, FE.out], by rw [FG.out]; exact stps_nil2 _, bel_set (bel_set K3.out.2.2 (by omega) _ _) (by omega) _ _⟩
  simp [results, Try.results6, go_sem, z0, z1]
end Go.Proofs.Ytaaaogiheplbmaa
