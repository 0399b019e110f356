/- What ReadSpec of package stairwellref does: the steps. -/
import Derived.Test.YtaaaogiheplbmaaIe
set_option linter.unusedSimpArgs false
set_option linter.unusedVariables false
namespace Go.Proofs.Ytaaaogiheplbmaa
open Go.RowKit

/- On the way through the steps. -/
def RL (w wr : World) (t : V) (a1 b1 : Option Addr) (c1 d1 g g7 : Nat) (m : List UInt8) (ok : Nat → Prop) (q : V) (qv sl : Value) (k : Nat) (xs : List Stp) : Prop :=
  RD w t a1 b1 c1 d1 wr ∧ PBox wr g m sl ∧ In wr ok q qv ∧ wr.ownsRow (g7 + 1) 32 2 sl k (stpCells xs) ∧ w.heap.size + 2 ≤ g ∧ g < g7 ∧ g7 + 1 ≤ wr.heap.size
theorem RL.bel {w wr w' : World} {t : V} {a1 b1 : Option Addr} {c1 d1 g g7 : Nat} {m : List UInt8} {ok : Nat → Prop} {q : V} {qv sl : Value} {k : Nat} {xs : List Stp} (h : RL w wr t a1 b1 c1 d1 g g7 m ok q qv sl k xs) (hb : Below wr.heap.size wr w') : RL w w' t a1 b1 c1 d1 g g7 m ok q qv sl k xs := by
  obtain ⟨h1, h2, h3, h4, h5, h6, h7⟩ := h
  exact ⟨h1.bel hb, h2.bel hb, h3.bel hb, h4.kept (gb_below hb : wr.grownBy w' none) (by cases e : sl.ownBlock with | none => exact .inl rfl | some j => exact .inr (by simp)), h5, h6, Nat.le_trans h7 hb.size⟩
theorem RL.push {w wr w' : World} {t : V} {a1 b1 : Option Addr} {c1 d1 g g7 : Nat} {m : List UInt8} {ok : Nat → Prop} {q : V} {qv sl sl' : Value} {k : Nat} {xs : List Stp} {x : Stp} (h : RL w wr t a1 b1 c1 d1 g g7 m ok q qv sl k xs) (h0 : ∀ k, ok k → k < w.heap.size) (ho : w'.ownsRow (g7 + 1) 32 2 sl' (k + 1) (stpCells (xs ++ [x]))) (hg : wr.grownBy w' sl.ownBlock) :
    RL w (w'.setCell ⟨g, 1, none⟩ sl') t a1 b1 c1 d1 g g7 m ok q qv sl' (k + 1) (xs ++ [x]) ∧ PBox w' g m sl := by
  obtain ⟨h1, h2, h3, h4, h5, h6, h7⟩ := h
  have hlow := h4.lt
  have r1 := h1.grown hg (fun j e => by have := (hlow j e).1; omega)
  have r2 : PBox w' g m sl := (hg.block g (by omega) (fun e => by have := (hlow _ e.symm).1; omega)).trans h2
  have gs : w'.grownBy (w'.setCell ⟨g, 1, none⟩ sl') (some g) := gb_set (gb_refl _ _) _ _
  obtain ⟨d, h3⟩ := h3
  refine ⟨⟨r1.grown gs (fun j e => by cases e; omega), heap_set r2 1 _, ⟨d, ?_⟩, ho.kept gs ?_, h5, h6, ?_⟩, r2⟩
  · have k1 := h3.grown hg (fun j hj e => by have := (hlow j e.symm).1; have := h0 j hj; omega)
    exact k1.grown gs (fun j hj e => by cases e; have := h0 _ hj; omega)
  · cases e : sl'.ownBlock with
    | none => exact .inl rfl
    | some j => exact .inr (fun e2 => by cases e2; have := (ho.lt g e).1; omega)
  · exact Nat.le_trans h7 (Nat.le_trans hg.size gs.size)
theorem RL.done {w wr : World} {t : V} {a1 b1 : Option Addr} {c1 d1 g g7 : Nat} {m : List UInt8} {ok : Nat → Prop} {q : V} {qv sl : Value} {k : Nat} {xs : List Stp} (h : RL w wr t a1 b1 c1 d1 g g7 m ok q qv sl k xs) (hk : k ≤ 8) (x y : Value) : StpsAre ((wr.setCell ⟨w.heap.size + 1, 0, none⟩ x).setCell ⟨w.heap.size + 1, 1, none⟩ y) xs sl := by
  obtain ⟨h1, h2, h3, h4, h5, h6, h7⟩ := h
  refine own_stps (h4.kept (gb_set (gb_set (gb_refl _ _) _ _) _ _) ?_) (by omega)
  cases e : sl.ownBlock with
  | none => exact .inl rfl
  | some j => exact .inr (fun e2 => by cases e2; have := (h4.lt _ e).1; omega)
theorem allF_all {l : List V} {k : Nat} {xs : List Stp} (h : allF (l.take k) = some xs) (hk : ¬ k < l.length) : allF l = some xs := by rwa [List.take_of_length_le (by omega)] at h
set_option maxRecDepth 100000 in
set_option maxHeartbeats 4000000 in
theorem rread_steps (w : World) (ok : Nat → Prop) (t : V) (v : Value) (h : In w ok t v) (h0 : ∀ k, ok k → k < w.heap.size) (hN : cnt t ≤ 1000000000000000) (hg : goodV t = true) (mm : V) (hm : memV t imageB = some mm) (hk : mm.kind = 3) (hs : mm.s ≠ []) (q : V) (hq : memV t stepsB = some q) (hq4 : q.kind = 4) (h8 : q.l.length ≤ 8) : Calls Try.prog 6 #[v] w fun e w' => ∃ sl, e = .returned (.tuple #[.agg #[.string ⟨(readG t).1.toArray⟩, sl], .int .i64 (readE t)]) ∧ StpsAre w' (readG t).2 sl ∧ Below w.heap.size w w' := by
  have H := hidI h
  have HN := hidI hN
  obtain ⟨a1, b1, c1, d1, rfl⟩ := h.form
  have K0 : Hid (RD w t a1 b1 c1 d1 ((w.alloc (.cells #[.int .i64 t.kind, .int .i64 t.n, .string ⟨t.s.toArray⟩, .slice a1 t.keys.length c1, .slice b1 t.l.length d1] 25)).alloc (.cells #[.string ⟨#[]⟩, .slice none 0 0] 28))) := hidI ⟨h2a w _ _, h2b w _ _, bel_trans (bel_alloc _ _) (bel_alloc _ _)⟩
  clear h hN
  have hn8 : ¬ 8 < q.l.length := by omega
  have FB : Hid (allF q.l = none → readG t = ([], []) ∧ readE t = 1) := hidI (fun hx => by simp [readG, readE, readF, hg, hm, hk, hs, hq, readStepsF, hq4, hn8, hx])
  have FO : Hid (∀ l, allF q.l = some l → readG t = (mm.s, l) ∧ readE t = 0) := hidI (fun l hx => by simp [readG, readE, readF, hg, hm, hk, hs, hq, readStepsF, hq4, hn8, hx])
  have HQ : Hid ((memV t stepsB).getD zeroT = q ∧ (memV t stepsB).isSome = true) := hidI (by rw [hq]; exact ⟨rfl, rfl⟩)
  have e3 : (q.kind == 4) = true := by simp [hq4]
  have e3n : (q.kind != 4) = false := by simp [hq4]
  have e4 : ¬ 8 < (q.l.length : Int) := by omega
  clear hq hq4 hn8
  have H8 := hidI h8
  have H0 := hidI h0
  clear h0
  have HM := hidI hm
  have e1 : (mm.kind == 3) = true := by simp [hk]
  have e1n : (mm.kind != 3) = false := by simp [hk]
  have e2 : mm.s.isEmpty = false := by simp [hs]
  clear hm hk hs
  go_enter Try.func6, Try.ntmps6
  go_upto_region 5 with (first | (go_at_call 21; refine (rgood_is _ ok t _ (by exact H.out.bel K1.out.2.2) HN.out).mono ?_; rintro e w2 ⟨rfl, hb⟩; rw [hg]; have K2 := hidI (K1.out.bel hb); have Bm2 := hidI (box_bel hb Bm.out); clear t0 t1 t2 t3 t4 p0 p1 f0 f1 m0 m1 m2 m3 m4; obtain ⟨t0, t1, t2, t3, t4, -⟩ := K2.out.1.c; obtain ⟨p0, p1⟩ := K2.out.2.1.c; obtain ⟨f0, f1⟩ := K2.out.2.1.cf; obtain ⟨m0, m1, m2, m3, m4, -⟩ := Bm2.out.c; clear hb) | (go_at_call 20; refine (rmember_is _ ok t _ imageB (by exact H.out.bel K0.out.2.2)).mono ?_; rintro e w1 ⟨xm, rfl, hb, hy⟩; obtain ⟨m, hm2⟩ : ∃ m, (memV t imageB).getD zeroT = m := ⟨_, rfl⟩; rw [hm2] at hy; obtain ⟨a5, b5, c5, d5, rfl⟩ := hy.form; rw [HM.out] at hm2; simp only [Option.getD] at hm2; rw [HM.out]; replace hm2 := hm2.symm; subst hm2; have Bm := hidI (show BoxIs (w1.alloc (.cells #[.int .i64 m.kind, .int .i64 m.n, .string ⟨m.s.toArray⟩, .slice a5 m.keys.length c5, .slice b5 m.l.length d5] 25)) w1.heap.size (.int .i64 m.kind) (.int .i64 m.n) (.string ⟨m.s.toArray⟩) (.slice a5 m.keys.length c5) (.slice b5 m.l.length d5) from heap_alloc_new w1 _); have K1 := hidI (K0.out.bel (bel_trans hb (bel_alloc w1 (.cells #[.int .i64 m.kind, .int .i64 m.n, .string ⟨m.s.toArray⟩, .slice a5 m.keys.length c5, .slice b5 m.l.length d5] 25)))); obtain ⟨t0, t1, t2, t3, t4, -⟩ := K1.out.1.c; obtain ⟨p0, p1⟩ := K1.out.2.1.c; obtain ⟨f0, f1⟩ := K1.out.2.1.cf; obtain ⟨m0, m1, m2, m3, m4, -⟩ := Bm.out.c; clear hb hy))
  have K2a := hidI (K2.out.bel (bel_alloc w2 (.cells #[.string ⟨m.s.toArray⟩, .slice none 0 0] 28)))
  clear t0 t1 t2 t3 t4 p0 p1 f0 f1 m0 m1 m2 m3 m4
  obtain ⟨t0, t1, t2, t3, t4, -⟩ := K2a.out.1.c
  obtain ⟨p0, p1⟩ := K2a.out.2.1.c
  obtain ⟨f0, f1⟩ := K2a.out.2.1.cf
  go_wp2_with (go_at_call 20; refine (rmember_is _ ok t _ stepsB (by exact H.out.bel (bel_trans K2.out.2.2 (bel_alloc w2 (.cells #[.string ⟨m.s.toArray⟩, .slice none 0 0] 28))))).mono ?_; rintro e w3 ⟨xq, rfl, hb, hy⟩; rw [HQ.out.1] at hy; obtain ⟨a6, b6, c6, d6, rfl⟩ := hy.form; rw [HQ.out.2]; have Bq := hidI (show BoxIs (w3.alloc (.cells #[.int .i64 q.kind, .int .i64 q.n, .string ⟨q.s.toArray⟩, .slice a6 q.keys.length c6, .slice b6 q.l.length d6] 25)) w3.heap.size (.int .i64 q.kind) (.int .i64 q.n) (.string ⟨q.s.toArray⟩) (.slice a6 q.keys.length c6) (.slice b6 q.l.length d6) from heap_alloc_new w3 _); have hbb := bel_trans (bel_alloc w2 (.cells #[.string ⟨m.s.toArray⟩, .slice none 0 0] 28)) (bel_trans hb (bel_alloc w3 (.cells #[.int .i64 q.kind, .int .i64 q.n, .string ⟨q.s.toArray⟩, .slice a6 q.keys.length c6, .slice b6 q.l.length d6] 25))); have K3 := hidI (K2.out.bel hbb); have Sb := hidI ((show PBox (w2.alloc (.cells #[.string ⟨m.s.toArray⟩, .slice none 0 0] 28)) w2.heap.size m.s (.slice none 0 0) from heap_alloc_new w2 _).bel (bel_trans hb (bel_alloc w3 (.cells #[.int .i64 q.kind, .int .i64 q.n, .string ⟨q.s.toArray⟩, .slice a6 q.keys.length c6, .slice b6 q.l.length d6] 25)))); have Iq := hidI (hy.bel (bel_alloc w3 (.cells #[.int .i64 q.kind, .int .i64 q.n, .string ⟨q.s.toArray⟩, .slice a6 q.keys.length c6, .slice b6 q.l.length d6] 25))); have GS := hidI (show w.heap.size + 2 ≤ w2.heap.size ∧ w2.heap.size < w3.heap.size from ⟨K2.out.big, by have := hb.size; simp at this; omega⟩); clear t0 t1 t2 t3 t4 p0 p1 f0 f1; obtain ⟨t0, t1, t2, t3, t4, -⟩ := K3.out.1.c; obtain ⟨p0, p1⟩ := K3.out.2.1.c; obtain ⟨f0, f1⟩ := K3.out.2.1.cf; obtain ⟨q0, q1, q2, q3, q4, -⟩ := Bq.out.c; obtain ⟨s0, s1⟩ := Sb.out.c; obtain ⟨u0, u1⟩ := Sb.out.cf; clear hb hy hbb)
  have L0 : Hid (RL w (w3.alloc (.cells #[.int .i64 q.kind, .int .i64 q.n, .string ⟨q.s.toArray⟩, .slice a6 q.keys.length c6, .slice b6 q.l.length d6] 25)) t a1 b1 c1 d1 w2.heap.size w3.heap.size m.s ok q (.agg #[.int .i64 q.kind, .int .i64 q.n, .string ⟨q.s.toArray⟩, .slice a6 q.keys.length c6, .slice b6 q.l.length d6]) (.slice none 0 0) 0 []) := hidI ⟨K3.out, Sb.out, Iq.out, World.ownsRow_nil _ _ _ _, GS.out.1, GS.out.2, by simp⟩
  clear K0 K1 K2 K2a K3 Sb Iq GS Bm Bm2 Bq HQ t0 t1 t2 t3 t4 p0 p1 f0 f1 q0 q1 q2 q3 q4 s0 s1 u0 u1
  go_loopg [9, 10, 11, 59] q.l.length (fun gk _ _ _ i wr => ∃ (k : Nat) (xs : List Stp) (sa : Option Addr) (sc : Nat), k ≤ q.l.length ∧ Hid (gk = q.l.length - k) ∧ i = .int .i64 k ∧ Hid (allF (q.l.take k) = some xs) ∧ Hid (RL w wr t a1 b1 c1 d1 w2.heap.size w3.heap.size m.s ok q (.agg #[.int .i64 q.kind, .int .i64 q.n, .string ⟨q.s.toArray⟩, .slice a6 q.keys.length c6, .slice b6 q.l.length d6]) (.slice sa k sc) k xs))
  case atStart => exact ⟨0, [], none, 0, Nat.zero_le _, hidI rfl, rfl, hidI rfl, L0⟩
  case round =>
    obtain ⟨k, xs, sa, sc, hk, GK, rfl, AX, L1⟩ := hrel
    by_cases hlt : k < q.l.length
    · obtain ⟨xb, xo, a7, c7, a8, c8, rfl, j1, j2, g0, g1, g2, g3, g4, g5⟩ := L1.out.2.2.1.item hlt
      have w1' : (k : Int) < (q.l.length : Int) := by omega
      have w2' : (0 : Int) ≤ (k : Int) := by omega
      have HI := hidI (g5.bel (bel_alloc wr (.cells #[.int .i64 q.l[k].kind, .int .i64 q.l[k].n, .string ⟨q.l[k].s.toArray⟩, .slice a7 q.l[k].keys.length c7, .slice a8 q.l[k].l.length c8] 25)))
      have L2 := hidI (L1.out.bel (bel_alloc wr (.cells #[.int .i64 q.l[k].kind, .int .i64 q.l[k].n, .string ⟨q.l[k].s.toArray⟩, .slice a7 q.l[k].keys.length c7, .slice a8 q.l[k].l.length c8] 25)))
      have Bx := hidI (show BoxIs (wr.alloc (.cells #[.int .i64 q.l[k].kind, .int .i64 q.l[k].n, .string ⟨q.l[k].s.toArray⟩, .slice a7 q.l[k].keys.length c7, .slice a8 q.l[k].l.length c8] 25)) wr.heap.size (.int .i64 q.l[k].kind) (.int .i64 q.l[k].n) (.string ⟨q.l[k].s.toArray⟩) (.slice a7 q.l[k].keys.length c7) (.slice a8 q.l[k].l.length c8) from heap_alloc_new wr _)
      have ST := hidI (fun x hx => allF_step hlt AX.out (x := x) hx)
      have SN := hidI (fun hx => allF_none (l := q.l) hlt hx)
      have ls : k ≤ 1000 := by have := H8.out; omega
      obtain ⟨pm, hpm⟩ : ∃ pm, memV q.l[k] pauseB = pm := ⟨_, rfl⟩
      clear g5
      by_cases hk2 : q.l[k].kind = 2
      · have e5 : (q.l[k].kind == 2) = true := by simp [hk2]
        obtain ⟨y, hy9⟩ : ∃ y, zeroT = y := ⟨_, rfl⟩
        have HP : Hid ((memV q.l[k] pauseB).getD zeroT = y ∧ (memV q.l[k] pauseB).isSome = false) := hidI (by rw [mem_num hk2]; exact ⟨hy9, rfl⟩)
        by_cases h1 : 0 ≤ q.l[k].n
        · by_cases h2 : q.l[k].n ≤ 100
          · have hr := step_num hk2 h1 h2
            clear hk2 hpm hy9
            go_upto_region 14 with (go_at_call 20; refine (rmember_is _ ok q.l[k] _ pauseB (by exact HI.out)).mono ?_; rintro e w5 ⟨xy, rfl, hb, hy⟩; rw [HP.out.1] at hy; obtain ⟨a9, b9, c9, d9, rfl⟩ := hy.form; rw [HP.out.2]; have By := hidI (show BoxIs (w5.alloc (.cells #[.int .i64 y.kind, .int .i64 y.n, .string ⟨y.s.toArray⟩, .slice a9 y.keys.length c9, .slice b9 y.l.length d9] 25)) w5.heap.size (.int .i64 y.kind) (.int .i64 y.n) (.string ⟨y.s.toArray⟩) (.slice a9 y.keys.length c9) (.slice b9 y.l.length d9) from heap_alloc_new w5 _); have hbb := bel_trans hb (bel_alloc w5 (.cells #[.int .i64 y.kind, .int .i64 y.n, .string ⟨y.s.toArray⟩, .slice a9 y.keys.length c9, .slice b9 y.l.length d9] 25)); have L3 := hidI (L2.out.bel hbb); have Bx3 := hidI (box_bel hbb Bx.out); obtain ⟨t0, t1, t2, t3, t4, -⟩ := L3.out.1.1.c; obtain ⟨p0, p1⟩ := L3.out.1.2.1.c; obtain ⟨f0, f1⟩ := L3.out.1.2.1.cf; obtain ⟨s0, s1⟩ := L3.out.2.1.c; obtain ⟨u0, u1⟩ := L3.out.2.1.cf; obtain ⟨x0, x1, x2, x3, x4, -⟩ := Bx3.out.c; obtain ⟨y0, y1, y2, y3, y4, -⟩ := By.out.c; clear hb hy hbb)
            obtain ⟨a', c', w6, hR, ho6, hg6⟩ := run_pushT (w5.alloc (.cells #[.int .i64 y.kind, .int .i64 y.n, .string ⟨y.s.toArray⟩, .slice a9 y.keys.length c9, .slice b9 y.l.length d9] 25)) _ _ _ _ ⟨q.l[k].n, 0⟩ L3.out.2.2.2.1 (by omega) L3.out.2.2.2.2.2.2 26
            have e9 : (w5.alloc (.cells #[.int .i64 y.kind, .int .i64 y.n, .string ⟨y.s.toArray⟩, .slice a9 y.keys.length c9, .slice b9 y.l.length d9] 25)).heap.size = w5.heap.size + 1 := by simp
            rw [e9] at hR
            clear e9
            have P6 := hidI (L3.out.push H0.out ho6 hg6)
            obtain ⟨v0, v1⟩ := P6.out.2.c
            obtain ⟨v2, v3⟩ := P6.out.2.cf
            clear ho6 hg6
            go_wp2_with (at_builtin; go_must (refine Lib.wpList_append_run _ rfl _ _ _ _ rfl (.slice sa k sc) (.slice (some ⟨w5.heap.size + 1, 0, none⟩) 1 1) rfl rfl _ _ hR ?_))
            go_roundg (q.l.length - (k + 1))
            case measure => rw [GK.out]; omega
            case rel => exact ⟨k + 1, xs ++ [⟨q.l[k].n, 0⟩], a', c', hlt, hidI rfl, by go_num, hidI (ST.out _ hr), hidI P6.out.1⟩

          · have hr := SN.out (step_far hk2 (.inr (by omega)))
            clear hk2 hpm hy9
            go_wp2_with (go_at_call 20; refine (rmember_is _ ok q.l[k] _ pauseB (by exact HI.out)).mono ?_; rintro e w5 ⟨xy, rfl, hb, hy⟩; rw [HP.out.1] at hy; obtain ⟨a9, b9, c9, d9, rfl⟩ := hy.form; rw [HP.out.2]; have By := hidI (show BoxIs (w5.alloc (.cells #[.int .i64 y.kind, .int .i64 y.n, .string ⟨y.s.toArray⟩, .slice a9 y.keys.length c9, .slice b9 y.l.length d9] 25)) w5.heap.size (.int .i64 y.kind) (.int .i64 y.n) (.string ⟨y.s.toArray⟩) (.slice a9 y.keys.length c9) (.slice b9 y.l.length d9) from heap_alloc_new w5 _); have hbb := bel_trans hb (bel_alloc w5 (.cells #[.int .i64 y.kind, .int .i64 y.n, .string ⟨y.s.toArray⟩, .slice a9 y.keys.length c9, .slice b9 y.l.length d9] 25)); have L3 := hidI (L2.out.bel hbb); have Bx3 := hidI (box_bel hbb Bx.out); obtain ⟨t0, t1, t2, t3, t4, -⟩ := L3.out.1.1.c; obtain ⟨p0, p1⟩ := L3.out.1.2.1.c; obtain ⟨f0, f1⟩ := L3.out.1.2.1.cf; obtain ⟨s0, s1⟩ := L3.out.2.1.c; obtain ⟨u0, u1⟩ := L3.out.2.1.cf; obtain ⟨x0, x1, x2, x3, x4, -⟩ := Bx3.out.c; obtain ⟨y0, y1, y2, y3, y4, -⟩ := By.out.c; clear hb hy hbb)
            obtain ⟨z0, z1⟩ := (L3.out.1.2.1.set [] (.slice none 0 0)).c
            refine bodyPost_ret (v := .tuple #[.agg #[.string ⟨#[]⟩, .slice none 0 0], .int .i64 1]) ?_ rfl ⟨.slice none 0 0, by rw [(FB.out hr).1, (FB.out hr).2], by rw [(FB.out hr).1]; exact stps_nil2 _, bel_set (bel_set L3.out.1.2.2 (by omega) _ _) (by omega) _ _⟩
            simp [results, Try.results6, go_sem, z0, z1]

        · have hr := SN.out (step_far hk2 (.inl (by omega)))
          clear hk2 hpm hy9
          go_wp2_with (go_at_call 20; refine (rmember_is _ ok q.l[k] _ pauseB (by exact HI.out)).mono ?_; rintro e w5 ⟨xy, rfl, hb, hy⟩; rw [HP.out.1] at hy; obtain ⟨a9, b9, c9, d9, rfl⟩ := hy.form; rw [HP.out.2]; have By := hidI (show BoxIs (w5.alloc (.cells #[.int .i64 y.kind, .int .i64 y.n, .string ⟨y.s.toArray⟩, .slice a9 y.keys.length c9, .slice b9 y.l.length d9] 25)) w5.heap.size (.int .i64 y.kind) (.int .i64 y.n) (.string ⟨y.s.toArray⟩) (.slice a9 y.keys.length c9) (.slice b9 y.l.length d9) from heap_alloc_new w5 _); have hbb := bel_trans hb (bel_alloc w5 (.cells #[.int .i64 y.kind, .int .i64 y.n, .string ⟨y.s.toArray⟩, .slice a9 y.keys.length c9, .slice b9 y.l.length d9] 25)); have L3 := hidI (L2.out.bel hbb); have Bx3 := hidI (box_bel hbb Bx.out); obtain ⟨t0, t1, t2, t3, t4, -⟩ := L3.out.1.1.c; obtain ⟨p0, p1⟩ := L3.out.1.2.1.c; obtain ⟨f0, f1⟩ := L3.out.1.2.1.cf; obtain ⟨s0, s1⟩ := L3.out.2.1.c; obtain ⟨u0, u1⟩ := L3.out.2.1.cf; obtain ⟨x0, x1, x2, x3, x4, -⟩ := Bx3.out.c; obtain ⟨y0, y1, y2, y3, y4, -⟩ := By.out.c; clear hb hy hbb)
          obtain ⟨z0, z1⟩ := (L3.out.1.2.1.set [] (.slice none 0 0)).c
          refine bodyPost_ret (v := .tuple #[.agg #[.string ⟨#[]⟩, .slice none 0 0], .int .i64 1]) ?_ rfl ⟨.slice none 0 0, by rw [(FB.out hr).1, (FB.out hr).2], by rw [(FB.out hr).1]; exact stps_nil2 _, bel_set (bel_set L3.out.1.2.2 (by omega) _ _) (by omega) _ _⟩
          simp [results, Try.results6, go_sem, z0, z1]

      · have e5 : (q.l[k].kind == 2) = false := by simp [hk2]
        cases pm with
        | none =>
          obtain ⟨y, hy9⟩ : ∃ y, zeroT = y := ⟨_, rfl⟩
          have HP : Hid ((memV q.l[k] pauseB).getD zeroT = y ∧ (memV q.l[k] pauseB).isSome = false) := hidI (by rw [hpm]; exact ⟨hy9, rfl⟩)
          have hr := SN.out (step_none hk2 hpm)
          clear hk2 hpm hy9
          go_wp2_with (go_at_call 20; refine (rmember_is _ ok q.l[k] _ pauseB (by exact HI.out)).mono ?_; rintro e w5 ⟨xy, rfl, hb, hy⟩; rw [HP.out.1] at hy; obtain ⟨a9, b9, c9, d9, rfl⟩ := hy.form; rw [HP.out.2]; have By := hidI (show BoxIs (w5.alloc (.cells #[.int .i64 y.kind, .int .i64 y.n, .string ⟨y.s.toArray⟩, .slice a9 y.keys.length c9, .slice b9 y.l.length d9] 25)) w5.heap.size (.int .i64 y.kind) (.int .i64 y.n) (.string ⟨y.s.toArray⟩) (.slice a9 y.keys.length c9) (.slice b9 y.l.length d9) from heap_alloc_new w5 _); have hbb := bel_trans hb (bel_alloc w5 (.cells #[.int .i64 y.kind, .int .i64 y.n, .string ⟨y.s.toArray⟩, .slice a9 y.keys.length c9, .slice b9 y.l.length d9] 25)); have L3 := hidI (L2.out.bel hbb); have Bx3 := hidI (box_bel hbb Bx.out); obtain ⟨t0, t1, t2, t3, t4, -⟩ := L3.out.1.1.c; obtain ⟨p0, p1⟩ := L3.out.1.2.1.c; obtain ⟨f0, f1⟩ := L3.out.1.2.1.cf; obtain ⟨s0, s1⟩ := L3.out.2.1.c; obtain ⟨u0, u1⟩ := L3.out.2.1.cf; obtain ⟨x0, x1, x2, x3, x4, -⟩ := Bx3.out.c; obtain ⟨y0, y1, y2, y3, y4, -⟩ := By.out.c; clear hb hy hbb)
          obtain ⟨z0, z1⟩ := (L3.out.1.2.1.set [] (.slice none 0 0)).c
          refine bodyPost_ret (v := .tuple #[.agg #[.string ⟨#[]⟩, .slice none 0 0], .int .i64 1]) ?_ rfl ⟨.slice none 0 0, by rw [(FB.out hr).1, (FB.out hr).2], by rw [(FB.out hr).1]; exact stps_nil2 _, bel_set (bel_set L3.out.1.2.2 (by omega) _ _) (by omega) _ _⟩
          simp [results, Try.results6, go_sem, z0, z1]

        | some y =>
          have HP : Hid ((memV q.l[k] pauseB).getD zeroT = y ∧ (memV q.l[k] pauseB).isSome = true) := hidI (by rw [hpm]; exact ⟨rfl, rfl⟩)
          by_cases hy2 : y.kind = 2
          · have e6 : (y.kind == 2) = true := by simp [hy2]
            by_cases h1 : 0 ≤ y.n
            · by_cases h2 : y.n ≤ 1099511627776
              · have hr := step_pause hk2 hpm hy2 h1 h2
                clear hk2 hpm hy2
                go_upto_region 16 with (go_at_call 20; refine (rmember_is _ ok q.l[k] _ pauseB (by exact HI.out)).mono ?_; rintro e w5 ⟨xy, rfl, hb, hy⟩; rw [HP.out.1] at hy; obtain ⟨a9, b9, c9, d9, rfl⟩ := hy.form; rw [HP.out.2]; have By := hidI (show BoxIs (w5.alloc (.cells #[.int .i64 y.kind, .int .i64 y.n, .string ⟨y.s.toArray⟩, .slice a9 y.keys.length c9, .slice b9 y.l.length d9] 25)) w5.heap.size (.int .i64 y.kind) (.int .i64 y.n) (.string ⟨y.s.toArray⟩) (.slice a9 y.keys.length c9) (.slice b9 y.l.length d9) from heap_alloc_new w5 _); have hbb := bel_trans hb (bel_alloc w5 (.cells #[.int .i64 y.kind, .int .i64 y.n, .string ⟨y.s.toArray⟩, .slice a9 y.keys.length c9, .slice b9 y.l.length d9] 25)); have L3 := hidI (L2.out.bel hbb); have Bx3 := hidI (box_bel hbb Bx.out); obtain ⟨t0, t1, t2, t3, t4, -⟩ := L3.out.1.1.c; obtain ⟨p0, p1⟩ := L3.out.1.2.1.c; obtain ⟨f0, f1⟩ := L3.out.1.2.1.cf; obtain ⟨s0, s1⟩ := L3.out.2.1.c; obtain ⟨u0, u1⟩ := L3.out.2.1.cf; obtain ⟨x0, x1, x2, x3, x4, -⟩ := Bx3.out.c; obtain ⟨y0, y1, y2, y3, y4, -⟩ := By.out.c; clear hb hy hbb)
                obtain ⟨a', c', w6, hR, ho6, hg6⟩ := run_pushT (w5.alloc (.cells #[.int .i64 y.kind, .int .i64 y.n, .string ⟨y.s.toArray⟩, .slice a9 y.keys.length c9, .slice b9 y.l.length d9] 25)) _ _ _ _ ⟨-1, y.n⟩ L3.out.2.2.2.1 (by omega) L3.out.2.2.2.2.2.2 26
                have e9 : (w5.alloc (.cells #[.int .i64 y.kind, .int .i64 y.n, .string ⟨y.s.toArray⟩, .slice a9 y.keys.length c9, .slice b9 y.l.length d9] 25)).heap.size = w5.heap.size + 1 := by simp
                rw [e9] at hR
                clear e9
                have P6 := hidI (L3.out.push H0.out ho6 hg6)
                obtain ⟨v0, v1⟩ := P6.out.2.c
                obtain ⟨v2, v3⟩ := P6.out.2.cf
                clear ho6 hg6
                go_wp2_with (at_builtin; go_must (refine Lib.wpList_append_run _ rfl _ _ _ _ rfl (.slice sa k sc) (.slice (some ⟨w5.heap.size + 1, 0, none⟩) 1 1) rfl rfl _ _ hR ?_))
                go_roundg (q.l.length - (k + 1))
                case measure => rw [GK.out]; omega
                case rel => exact ⟨k + 1, xs ++ [⟨-1, y.n⟩], a', c', hlt, hidI rfl, by go_num, hidI (ST.out _ hr), hidI P6.out.1⟩

              · have hr := SN.out (step_other hk2 hpm (.inr (.inr (by omega))))
                clear hk2 hpm hy2
                go_wp2_with (go_at_call 20; refine (rmember_is _ ok q.l[k] _ pauseB (by exact HI.out)).mono ?_; rintro e w5 ⟨xy, rfl, hb, hy⟩; rw [HP.out.1] at hy; obtain ⟨a9, b9, c9, d9, rfl⟩ := hy.form; rw [HP.out.2]; have By := hidI (show BoxIs (w5.alloc (.cells #[.int .i64 y.kind, .int .i64 y.n, .string ⟨y.s.toArray⟩, .slice a9 y.keys.length c9, .slice b9 y.l.length d9] 25)) w5.heap.size (.int .i64 y.kind) (.int .i64 y.n) (.string ⟨y.s.toArray⟩) (.slice a9 y.keys.length c9) (.slice b9 y.l.length d9) from heap_alloc_new w5 _); have hbb := bel_trans hb (bel_alloc w5 (.cells #[.int .i64 y.kind, .int .i64 y.n, .string ⟨y.s.toArray⟩, .slice a9 y.keys.length c9, .slice b9 y.l.length d9] 25)); have L3 := hidI (L2.out.bel hbb); have Bx3 := hidI (box_bel hbb Bx.out); obtain ⟨t0, t1, t2, t3, t4, -⟩ := L3.out.1.1.c; obtain ⟨p0, p1⟩ := L3.out.1.2.1.c; obtain ⟨f0, f1⟩ := L3.out.1.2.1.cf; obtain ⟨s0, s1⟩ := L3.out.2.1.c; obtain ⟨u0, u1⟩ := L3.out.2.1.cf; obtain ⟨x0, x1, x2, x3, x4, -⟩ := Bx3.out.c; obtain ⟨y0, y1, y2, y3, y4, -⟩ := By.out.c; clear hb hy hbb)
                obtain ⟨z0, z1⟩ := (L3.out.1.2.1.set [] (.slice none 0 0)).c
                refine bodyPost_ret (v := .tuple #[.agg #[.string ⟨#[]⟩, .slice none 0 0], .int .i64 1]) ?_ rfl ⟨.slice none 0 0, by rw [(FB.out hr).1, (FB.out hr).2], by rw [(FB.out hr).1]; exact stps_nil2 _, bel_set (bel_set L3.out.1.2.2 (by omega) _ _) (by omega) _ _⟩
                simp [results, Try.results6, go_sem, z0, z1]

            · have hr := SN.out (step_other hk2 hpm (.inr (.inl (by omega))))
              clear hk2 hpm hy2
              go_wp2_with (go_at_call 20; refine (rmember_is _ ok q.l[k] _ pauseB (by exact HI.out)).mono ?_; rintro e w5 ⟨xy, rfl, hb, hy⟩; rw [HP.out.1] at hy; obtain ⟨a9, b9, c9, d9, rfl⟩ := hy.form; rw [HP.out.2]; have By := hidI (show BoxIs (w5.alloc (.cells #[.int .i64 y.kind, .int .i64 y.n, .string ⟨y.s.toArray⟩, .slice a9 y.keys.length c9, .slice b9 y.l.length d9] 25)) w5.heap.size (.int .i64 y.kind) (.int .i64 y.n) (.string ⟨y.s.toArray⟩) (.slice a9 y.keys.length c9) (.slice b9 y.l.length d9) from heap_alloc_new w5 _); have hbb := bel_trans hb (bel_alloc w5 (.cells #[.int .i64 y.kind, .int .i64 y.n, .string ⟨y.s.toArray⟩, .slice a9 y.keys.length c9, .slice b9 y.l.length d9] 25)); have L3 := hidI (L2.out.bel hbb); have Bx3 := hidI (box_bel hbb Bx.out); obtain ⟨t0, t1, t2, t3, t4, -⟩ := L3.out.1.1.c; obtain ⟨p0, p1⟩ := L3.out.1.2.1.c; obtain ⟨f0, f1⟩ := L3.out.1.2.1.cf; obtain ⟨s0, s1⟩ := L3.out.2.1.c; obtain ⟨u0, u1⟩ := L3.out.2.1.cf; obtain ⟨x0, x1, x2, x3, x4, -⟩ := Bx3.out.c; obtain ⟨y0, y1, y2, y3, y4, -⟩ := By.out.c; clear hb hy hbb)
              obtain ⟨z0, z1⟩ := (L3.out.1.2.1.set [] (.slice none 0 0)).c
              refine bodyPost_ret (v := .tuple #[.agg #[.string ⟨#[]⟩, .slice none 0 0], .int .i64 1]) ?_ rfl ⟨.slice none 0 0, by rw [(FB.out hr).1, (FB.out hr).2], by rw [(FB.out hr).1]; exact stps_nil2 _, bel_set (bel_set L3.out.1.2.2 (by omega) _ _) (by omega) _ _⟩
              simp [results, Try.results6, go_sem, z0, z1]

          · have e6 : (y.kind == 2) = false := by simp [hy2]
            have hr := SN.out (step_other hk2 hpm (.inl hy2))
            clear hk2 hpm hy2
            go_wp2_with (go_at_call 20; refine (rmember_is _ ok q.l[k] _ pauseB (by exact HI.out)).mono ?_; rintro e w5 ⟨xy, rfl, hb, hy⟩; rw [HP.out.1] at hy; obtain ⟨a9, b9, c9, d9, rfl⟩ := hy.form; rw [HP.out.2]; have By := hidI (show BoxIs (w5.alloc (.cells #[.int .i64 y.kind, .int .i64 y.n, .string ⟨y.s.toArray⟩, .slice a9 y.keys.length c9, .slice b9 y.l.length d9] 25)) w5.heap.size (.int .i64 y.kind) (.int .i64 y.n) (.string ⟨y.s.toArray⟩) (.slice a9 y.keys.length c9) (.slice b9 y.l.length d9) from heap_alloc_new w5 _); have hbb := bel_trans hb (bel_alloc w5 (.cells #[.int .i64 y.kind, .int .i64 y.n, .string ⟨y.s.toArray⟩, .slice a9 y.keys.length c9, .slice b9 y.l.length d9] 25)); have L3 := hidI (L2.out.bel hbb); have Bx3 := hidI (box_bel hbb Bx.out); obtain ⟨t0, t1, t2, t3, t4, -⟩ := L3.out.1.1.c; obtain ⟨p0, p1⟩ := L3.out.1.2.1.c; obtain ⟨f0, f1⟩ := L3.out.1.2.1.cf; obtain ⟨s0, s1⟩ := L3.out.2.1.c; obtain ⟨u0, u1⟩ := L3.out.2.1.cf; obtain ⟨x0, x1, x2, x3, x4, -⟩ := Bx3.out.c; obtain ⟨y0, y1, y2, y3, y4, -⟩ := By.out.c; clear hb hy hbb)
            obtain ⟨z0, z1⟩ := (L3.out.1.2.1.set [] (.slice none 0 0)).c
            refine bodyPost_ret (v := .tuple #[.agg #[.string ⟨#[]⟩, .slice none 0 0], .int .i64 1]) ?_ rfl ⟨.slice none 0 0, by rw [(FB.out hr).1, (FB.out hr).2], by rw [(FB.out hr).1]; exact stps_nil2 _, bel_set (bel_set L3.out.1.2.2 (by omega) _ _) (by omega) _ _⟩
            simp [results, Try.results6, go_sem, z0, z1]

    · have d1' : ¬ (k : Int) < (q.l.length : Int) := by omega
      have FIN := hidI (FO.out xs (allF_all AX.out hlt))
      have k8 : k ≤ 8 := by have := H8.out; omega
      obtain ⟨s0, s1⟩ := L1.out.2.1.c
      obtain ⟨t0, t1, t2, t3, t4, -⟩ := L1.out.1.1.c; obtain ⟨p0, p1⟩ := L1.out.1.2.1.c; obtain ⟨f0, f1⟩ := L1.out.1.2.1.cf
      go_wp2_with fail
      obtain ⟨z0, z1⟩ := (L1.out.1.2.1.set m.s (.slice sa k sc)).c
      refine bodyPost_ret (v := .tuple #[.agg #[.string ⟨m.s.toArray⟩, .slice sa k sc], .int .i64 0]) ?_ rfl ⟨.slice sa k sc, by rw [FIN.out.1, FIN.out.2], by rw [FIN.out.1]; exact L1.out.done k8 _ _, bel_set (bel_set L1.out.1.2.2 (by omega) _ _) (by omega) _ _⟩
      simp [results, Try.results6, go_sem, z0, z1]
set_option maxRecDepth 100000 in
set_option maxHeartbeats 4000000 in
theorem rread_short (w : World) (ok : Nat → Prop) (t : V) (v : Value) (h : In w ok t v) (h0 : ∀ k, ok k → k < w.heap.size) (hN : cnt t ≤ 1000000000000000) (hg : goodV t = true) (mm : V) (hm : memV t imageB = some mm) (hk : mm.kind = 3) (hs : mm.s ≠ []) (q : V) (hq : memV t stepsB = none) (hz : q = zeroT) : Calls Try.prog 6 #[v] w fun e w' => ∃ sl, e = .returned (.tuple #[.agg #[.string ⟨(readG t).1.toArray⟩, sl], .int .i64 (readE t)]) ∧ StpsAre w' (readG t).2 sl ∧ Below w.heap.size w w' := by
  have H := hidI h
  have HN := hidI hN
  obtain ⟨a1, b1, c1, d1, rfl⟩ := h.form
  have K0 : Hid (RD w t a1 b1 c1 d1 ((w.alloc (.cells #[.int .i64 t.kind, .int .i64 t.n, .string ⟨t.s.toArray⟩, .slice a1 t.keys.length c1, .slice b1 t.l.length d1] 25)).alloc (.cells #[.string ⟨#[]⟩, .slice none 0 0] 28))) := hidI ⟨h2a w _ _, h2b w _ _, bel_trans (bel_alloc _ _) (bel_alloc _ _)⟩
  clear h hN
  have h8 : q.l.length ≤ 8 := by rw [hz]; simp [zeroT]
  have hl0 : q.l = [] := by rw [hz]; rfl
  have FB : Hid (allF q.l = none → readG t = ([], []) ∧ readE t = 1) := hidI (fun hx => by rw [hl0] at hx; simp [allF] at hx)
  have FO : Hid (∀ l, allF q.l = some l → readG t = (mm.s, l) ∧ readE t = 0) := hidI (fun l hx => by rw [hl0] at hx; simp [allF] at hx; simp [readG, readE, readF, hg, hm, hk, hs, hq, hx])
  have HQ : Hid ((memV t stepsB).getD zeroT = q ∧ (memV t stepsB).isSome = false) := hidI (by rw [hq, hz]; exact ⟨rfl, rfl⟩)
  clear hq hz hl0
  have H8 := hidI h8
  have H0 := hidI h0
  clear h0
  have HM := hidI hm
  have e1 : (mm.kind == 3) = true := by simp [hk]
  have e1n : (mm.kind != 3) = false := by simp [hk]
  have e2 : mm.s.isEmpty = false := by simp [hs]
  clear hm hk hs
  go_enter Try.func6, Try.ntmps6
  go_upto_region 5 with (first | (go_at_call 21; refine (rgood_is _ ok t _ (by exact H.out.bel K1.out.2.2) HN.out).mono ?_; rintro e w2 ⟨rfl, hb⟩; rw [hg]; have K2 := hidI (K1.out.bel hb); have Bm2 := hidI (box_bel hb Bm.out); clear t0 t1 t2 t3 t4 p0 p1 f0 f1 m0 m1 m2 m3 m4; obtain ⟨t0, t1, t2, t3, t4, -⟩ := K2.out.1.c; obtain ⟨p0, p1⟩ := K2.out.2.1.c; obtain ⟨f0, f1⟩ := K2.out.2.1.cf; obtain ⟨m0, m1, m2, m3, m4, -⟩ := Bm2.out.c; clear hb) | (go_at_call 20; refine (rmember_is _ ok t _ imageB (by exact H.out.bel K0.out.2.2)).mono ?_; rintro e w1 ⟨xm, rfl, hb, hy⟩; obtain ⟨m, hm2⟩ : ∃ m, (memV t imageB).getD zeroT = m := ⟨_, rfl⟩; rw [hm2] at hy; obtain ⟨a5, b5, c5, d5, rfl⟩ := hy.form; rw [HM.out] at hm2; simp only [Option.getD] at hm2; rw [HM.out]; replace hm2 := hm2.symm; subst hm2; have Bm := hidI (show BoxIs (w1.alloc (.cells #[.int .i64 m.kind, .int .i64 m.n, .string ⟨m.s.toArray⟩, .slice a5 m.keys.length c5, .slice b5 m.l.length d5] 25)) w1.heap.size (.int .i64 m.kind) (.int .i64 m.n) (.string ⟨m.s.toArray⟩) (.slice a5 m.keys.length c5) (.slice b5 m.l.length d5) from heap_alloc_new w1 _); have K1 := hidI (K0.out.bel (bel_trans hb (bel_alloc w1 (.cells #[.int .i64 m.kind, .int .i64 m.n, .string ⟨m.s.toArray⟩, .slice a5 m.keys.length c5, .slice b5 m.l.length d5] 25)))); obtain ⟨t0, t1, t2, t3, t4, -⟩ := K1.out.1.c; obtain ⟨p0, p1⟩ := K1.out.2.1.c; obtain ⟨f0, f1⟩ := K1.out.2.1.cf; obtain ⟨m0, m1, m2, m3, m4, -⟩ := Bm.out.c; clear hb hy))
  have K2a := hidI (K2.out.bel (bel_alloc w2 (.cells #[.string ⟨m.s.toArray⟩, .slice none 0 0] 28)))
  clear t0 t1 t2 t3 t4 p0 p1 f0 f1 m0 m1 m2 m3 m4
  obtain ⟨t0, t1, t2, t3, t4, -⟩ := K2a.out.1.c
  obtain ⟨p0, p1⟩ := K2a.out.2.1.c
  obtain ⟨f0, f1⟩ := K2a.out.2.1.cf
  go_wp2_with (go_at_call 20; refine (rmember_is _ ok t _ stepsB (by exact H.out.bel (bel_trans K2.out.2.2 (bel_alloc w2 (.cells #[.string ⟨m.s.toArray⟩, .slice none 0 0] 28))))).mono ?_; rintro e w3 ⟨xq, rfl, hb, hy⟩; rw [HQ.out.1] at hy; obtain ⟨a6, b6, c6, d6, rfl⟩ := hy.form; rw [HQ.out.2]; have Bq := hidI (show BoxIs (w3.alloc (.cells #[.int .i64 q.kind, .int .i64 q.n, .string ⟨q.s.toArray⟩, .slice a6 q.keys.length c6, .slice b6 q.l.length d6] 25)) w3.heap.size (.int .i64 q.kind) (.int .i64 q.n) (.string ⟨q.s.toArray⟩) (.slice a6 q.keys.length c6) (.slice b6 q.l.length d6) from heap_alloc_new w3 _); have hbb := bel_trans (bel_alloc w2 (.cells #[.string ⟨m.s.toArray⟩, .slice none 0 0] 28)) (bel_trans hb (bel_alloc w3 (.cells #[.int .i64 q.kind, .int .i64 q.n, .string ⟨q.s.toArray⟩, .slice a6 q.keys.length c6, .slice b6 q.l.length d6] 25))); have K3 := hidI (K2.out.bel hbb); have Sb := hidI ((show PBox (w2.alloc (.cells #[.string ⟨m.s.toArray⟩, .slice none 0 0] 28)) w2.heap.size m.s (.slice none 0 0) from heap_alloc_new w2 _).bel (bel_trans hb (bel_alloc w3 (.cells #[.int .i64 q.kind, .int .i64 q.n, .string ⟨q.s.toArray⟩, .slice a6 q.keys.length c6, .slice b6 q.l.length d6] 25)))); have Iq := hidI (hy.bel (bel_alloc w3 (.cells #[.int .i64 q.kind, .int .i64 q.n, .string ⟨q.s.toArray⟩, .slice a6 q.keys.length c6, .slice b6 q.l.length d6] 25))); have GS := hidI (show w.heap.size + 2 ≤ w2.heap.size ∧ w2.heap.size < w3.heap.size from ⟨K2.out.big, by have := hb.size; simp at this; omega⟩); clear t0 t1 t2 t3 t4 p0 p1 f0 f1; obtain ⟨t0, t1, t2, t3, t4, -⟩ := K3.out.1.c; obtain ⟨p0, p1⟩ := K3.out.2.1.c; obtain ⟨f0, f1⟩ := K3.out.2.1.cf; obtain ⟨q0, q1, q2, q3, q4, -⟩ := Bq.out.c; obtain ⟨s0, s1⟩ := Sb.out.c; obtain ⟨u0, u1⟩ := Sb.out.cf; clear hb hy hbb)
  have L0 : Hid (RL w (w3.alloc (.cells #[.int .i64 q.kind, .int .i64 q.n, .string ⟨q.s.toArray⟩, .slice a6 q.keys.length c6, .slice b6 q.l.length d6] 25)) t a1 b1 c1 d1 w2.heap.size w3.heap.size m.s ok q (.agg #[.int .i64 q.kind, .int .i64 q.n, .string ⟨q.s.toArray⟩, .slice a6 q.keys.length c6, .slice b6 q.l.length d6]) (.slice none 0 0) 0 []) := hidI ⟨K3.out, Sb.out, Iq.out, World.ownsRow_nil _ _ _ _, GS.out.1, GS.out.2, by simp⟩
  clear K0 K1 K2 K2a K3 Sb Iq GS Bm Bm2 Bq HQ t0 t1 t2 t3 t4 p0 p1 f0 f1 q0 q1 q2 q3 q4 s0 s1 u0 u1
  go_loopg [9, 10, 11, 59] q.l.length (fun gk _ _ _ i wr => ∃ (k : Nat) (xs : List Stp) (sa : Option Addr) (sc : Nat), k ≤ q.l.length ∧ Hid (gk = q.l.length - k) ∧ i = .int .i64 k ∧ Hid (allF (q.l.take k) = some xs) ∧ Hid (RL w wr t a1 b1 c1 d1 w2.heap.size w3.heap.size m.s ok q (.agg #[.int .i64 q.kind, .int .i64 q.n, .string ⟨q.s.toArray⟩, .slice a6 q.keys.length c6, .slice b6 q.l.length d6]) (.slice sa k sc) k xs))
  case atStart => exact ⟨0, [], none, 0, Nat.zero_le _, hidI rfl, rfl, hidI rfl, L0⟩
  case round =>
    obtain ⟨k, xs, sa, sc, hk, GK, rfl, AX, L1⟩ := hrel
    by_cases hlt : k < q.l.length
    · obtain ⟨xb, xo, a7, c7, a8, c8, rfl, j1, j2, g0, g1, g2, g3, g4, g5⟩ := L1.out.2.2.1.item hlt
      have w1' : (k : Int) < (q.l.length : Int) := by omega
      have w2' : (0 : Int) ≤ (k : Int) := by omega
      have HI := hidI (g5.bel (bel_alloc wr (.cells #[.int .i64 q.l[k].kind, .int .i64 q.l[k].n, .string ⟨q.l[k].s.toArray⟩, .slice a7 q.l[k].keys.length c7, .slice a8 q.l[k].l.length c8] 25)))
      have L2 := hidI (L1.out.bel (bel_alloc wr (.cells #[.int .i64 q.l[k].kind, .int .i64 q.l[k].n, .string ⟨q.l[k].s.toArray⟩, .slice a7 q.l[k].keys.length c7, .slice a8 q.l[k].l.length c8] 25)))
      have Bx := hidI (show BoxIs (wr.alloc (.cells #[.int .i64 q.l[k].kind, .int .i64 q.l[k].n, .string ⟨q.l[k].s.toArray⟩, .slice a7 q.l[k].keys.length c7, .slice a8 q.l[k].l.length c8] 25)) wr.heap.size (.int .i64 q.l[k].kind) (.int .i64 q.l[k].n) (.string ⟨q.l[k].s.toArray⟩) (.slice a7 q.l[k].keys.length c7) (.slice a8 q.l[k].l.length c8) from heap_alloc_new wr _)
      have ST := hidI (fun x hx => allF_step hlt AX.out (x := x) hx)
      have SN := hidI (fun hx => allF_none (l := q.l) hlt hx)
      have ls : k ≤ 1000 := by have := H8.out; omega
      obtain ⟨pm, hpm⟩ : ∃ pm, memV q.l[k] pauseB = pm := ⟨_, rfl⟩
      clear g5
      by_cases hk2 : q.l[k].kind = 2
      · have e5 : (q.l[k].kind == 2) = true := by simp [hk2]
        obtain ⟨y, hy9⟩ : ∃ y, zeroT = y := ⟨_, rfl⟩
        have HP : Hid ((memV q.l[k] pauseB).getD zeroT = y ∧ (memV q.l[k] pauseB).isSome = false) := hidI (by rw [mem_num hk2]; exact ⟨hy9, rfl⟩)
        by_cases h1 : 0 ≤ q.l[k].n
        · by_cases h2 : q.l[k].n ≤ 100
          · have hr := step_num hk2 h1 h2
            clear hk2 hpm hy9
            go_upto_region 14 with (go_at_call 20; refine (rmember_is _ ok q.l[k] _ pauseB (by exact HI.out)).mono ?_; rintro e w5 ⟨xy, rfl, hb, hy⟩; rw [HP.out.1] at hy; obtain ⟨a9, b9, c9, d9, rfl⟩ := hy.form; rw [HP.out.2]; have By := hidI (show BoxIs (w5.alloc (.cells #[.int .i64 y.kind, .int .i64 y.n, .string ⟨y.s.toArray⟩, .slice a9 y.keys.length c9, .slice b9 y.l.length d9] 25)) w5.heap.size (.int .i64 y.kind) (.int .i64 y.n) (.string ⟨y.s.toArray⟩) (.slice a9 y.keys.length c9) (.slice b9 y.l.length d9) from heap_alloc_new w5 _); have hbb := bel_trans hb (bel_alloc w5 (.cells #[.int .i64 y.kind, .int .i64 y.n, .string ⟨y.s.toArray⟩, .slice a9 y.keys.length c9, .slice b9 y.l.length d9] 25)); have L3 := hidI (L2.out.bel hbb); have Bx3 := hidI (box_bel hbb Bx.out); obtain ⟨t0, t1, t2, t3, t4, -⟩ := L3.out.1.1.c; obtain ⟨p0, p1⟩ := L3.out.1.2.1.c; obtain ⟨f0, f1⟩ := L3.out.1.2.1.cf; obtain ⟨s0, s1⟩ := L3.out.2.1.c; obtain ⟨u0, u1⟩ := L3.out.2.1.cf; obtain ⟨x0, x1, x2, x3, x4, -⟩ := Bx3.out.c; obtain ⟨y0, y1, y2, y3, y4, -⟩ := By.out.c; clear hb hy hbb)
            obtain ⟨a', c', w6, hR, ho6, hg6⟩ := run_pushT (w5.alloc (.cells #[.int .i64 y.kind, .int .i64 y.n, .string ⟨y.s.toArray⟩, .slice a9 y.keys.length c9, .slice b9 y.l.length d9] 25)) _ _ _ _ ⟨q.l[k].n, 0⟩ L3.out.2.2.2.1 (by omega) L3.out.2.2.2.2.2.2 26
            have e9 : (w5.alloc (.cells #[.int .i64 y.kind, .int .i64 y.n, .string ⟨y.s.toArray⟩, .slice a9 y.keys.length c9, .slice b9 y.l.length d9] 25)).heap.size = w5.heap.size + 1 := by simp
            rw [e9] at hR
            clear e9
            have P6 := hidI (L3.out.push H0.out ho6 hg6)
            obtain ⟨v0, v1⟩ := P6.out.2.c
            obtain ⟨v2, v3⟩ := P6.out.2.cf
            clear ho6 hg6
            go_wp2_with (at_builtin; go_must (refine Lib.wpList_append_run _ rfl _ _ _ _ rfl (.slice sa k sc) (.slice (some ⟨w5.heap.size + 1, 0, none⟩) 1 1) rfl rfl _ _ hR ?_))
            go_roundg (q.l.length - (k + 1))
            case measure => rw [GK.out]; omega
            case rel => exact ⟨k + 1, xs ++ [⟨q.l[k].n, 0⟩], a', c', hlt, hidI rfl, by go_num, hidI (ST.out _ hr), hidI P6.out.1⟩

          · have hr := SN.out (step_far hk2 (.inr (by omega)))
            clear hk2 hpm hy9
            go_wp2_with (go_at_call 20; refine (rmember_is _ ok q.l[k] _ pauseB (by exact HI.out)).mono ?_; rintro e w5 ⟨xy, rfl, hb, hy⟩; rw [HP.out.1] at hy; obtain ⟨a9, b9, c9, d9, rfl⟩ := hy.form; rw [HP.out.2]; have By := hidI (show BoxIs (w5.alloc (.cells #[.int .i64 y.kind, .int .i64 y.n, .string ⟨y.s.toArray⟩, .slice a9 y.keys.length c9, .slice b9 y.l.length d9] 25)) w5.heap.size (.int .i64 y.kind) (.int .i64 y.n) (.string ⟨y.s.toArray⟩) (.slice a9 y.keys.length c9) (.slice b9 y.l.length d9) from heap_alloc_new w5 _); have hbb := bel_trans hb (bel_alloc w5 (.cells #[.int .i64 y.kind, .int .i64 y.n, .string ⟨y.s.toArray⟩, .slice a9 y.keys.length c9, .slice b9 y.l.length d9] 25)); have L3 := hidI (L2.out.bel hbb); have Bx3 := hidI (box_bel hbb Bx.out); obtain ⟨t0, t1, t2, t3, t4, -⟩ := L3.out.1.1.c; obtain ⟨p0, p1⟩ := L3.out.1.2.1.c; obtain ⟨f0, f1⟩ := L3.out.1.2.1.cf; obtain ⟨s0, s1⟩ := L3.out.2.1.c; obtain ⟨u0, u1⟩ := L3.out.2.1.cf; obtain ⟨x0, x1, x2, x3, x4, -⟩ := Bx3.out.c; obtain ⟨y0, y1, y2, y3, y4, -⟩ := By.out.c; clear hb hy hbb)
            obtain ⟨z0, z1⟩ := (L3.out.1.2.1.set [] (.slice none 0 0)).c
            refine bodyPost_ret (v := .tuple #[.agg #[.string ⟨#[]⟩, .slice none 0 0], .int .i64 1]) ?_ rfl ⟨.slice none 0 0, by rw [(FB.out hr).1, (FB.out hr).2], by rw [(FB.out hr).1]; exact stps_nil2 _, bel_set (bel_set L3.out.1.2.2 (by omega) _ _) (by omega) _ _⟩
            simp [results, Try.results6, go_sem, z0, z1]

        · have hr := SN.out (step_far hk2 (.inl (by omega)))
          clear hk2 hpm hy9
          go_wp2_with (go_at_call 20; refine (rmember_is _ ok q.l[k] _ pauseB (by exact HI.out)).mono ?_; rintro e w5 ⟨xy, rfl, hb, hy⟩; rw [HP.out.1] at hy; obtain ⟨a9, b9, c9, d9, rfl⟩ := hy.form; rw [HP.out.2]; have By := hidI (show BoxIs (w5.alloc (.cells #[.int .i64 y.kind, .int .i64 y.n, .string ⟨y.s.toArray⟩, .slice a9 y.keys.length c9, .slice b9 y.l.length d9] 25)) w5.heap.size (.int .i64 y.kind) (.int .i64 y.n) (.string ⟨y.s.toArray⟩) (.slice a9 y.keys.length c9) (.slice b9 y.l.length d9) from heap_alloc_new w5 _); have hbb := bel_trans hb (bel_alloc w5 (.cells #[.int .i64 y.kind, .int .i64 y.n, .string ⟨y.s.toArray⟩, .slice a9 y.keys.length c9, .slice b9 y.l.length d9] 25)); have L3 := hidI (L2.out.bel hbb); have Bx3 := hidI (box_bel hbb Bx.out); obtain ⟨t0, t1, t2, t3, t4, -⟩ := L3.out.1.1.c; obtain ⟨p0, p1⟩ := L3.out.1.2.1.c; obtain ⟨f0, f1⟩ := L3.out.1.2.1.cf; obtain ⟨s0, s1⟩ := L3.out.2.1.c; obtain ⟨u0, u1⟩ := L3.out.2.1.cf; obtain ⟨x0, x1, x2, x3, x4, -⟩ := Bx3.out.c; obtain ⟨y0, y1, y2, y3, y4, -⟩ := By.out.c; clear hb hy hbb)
          obtain ⟨z0, z1⟩ := (L3.out.1.2.1.set [] (.slice none 0 0)).c
          refine bodyPost_ret (v := .tuple #[.agg #[.string ⟨#[]⟩, .slice none 0 0], .int .i64 1]) ?_ rfl ⟨.slice none 0 0, by rw [(FB.out hr).1, (FB.out hr).2], by rw [(FB.out hr).1]; exact stps_nil2 _, bel_set (bel_set L3.out.1.2.2 (by omega) _ _) (by omega) _ _⟩
          simp [results, Try.results6, go_sem, z0, z1]

      · have e5 : (q.l[k].kind == 2) = false := by simp [hk2]
        cases pm with
        | none =>
          obtain ⟨y, hy9⟩ : ∃ y, zeroT = y := ⟨_, rfl⟩
          have HP : Hid ((memV q.l[k] pauseB).getD zeroT = y ∧ (memV q.l[k] pauseB).isSome = false) := hidI (by rw [hpm]; exact ⟨hy9, rfl⟩)
          have hr := SN.out (step_none hk2 hpm)
          clear hk2 hpm hy9
          go_wp2_with (go_at_call 20; refine (rmember_is _ ok q.l[k] _ pauseB (by exact HI.out)).mono ?_; rintro e w5 ⟨xy, rfl, hb, hy⟩; rw [HP.out.1] at hy; obtain ⟨a9, b9, c9, d9, rfl⟩ := hy.form; rw [HP.out.2]; have By := hidI (show BoxIs (w5.alloc (.cells #[.int .i64 y.kind, .int .i64 y.n, .string ⟨y.s.toArray⟩, .slice a9 y.keys.length c9, .slice b9 y.l.length d9] 25)) w5.heap.size (.int .i64 y.kind) (.int .i64 y.n) (.string ⟨y.s.toArray⟩) (.slice a9 y.keys.length c9) (.slice b9 y.l.length d9) from heap_alloc_new w5 _); have hbb := bel_trans hb (bel_alloc w5 (.cells #[.int .i64 y.kind, .int .i64 y.n, .string ⟨y.s.toArray⟩, .slice a9 y.keys.length c9, .slice b9 y.l.length d9] 25)); have L3 := hidI (L2.out.bel hbb); have Bx3 := hidI (box_bel hbb Bx.out); obtain ⟨t0, t1, t2, t3, t4, -⟩ := L3.out.1.1.c; obtain ⟨p0, p1⟩ := L3.out.1.2.1.c; obtain ⟨f0, f1⟩ := L3.out.1.2.1.cf; obtain ⟨s0, s1⟩ := L3.out.2.1.c; obtain ⟨u0, u1⟩ := L3.out.2.1.cf; obtain ⟨x0, x1, x2, x3, x4, -⟩ := Bx3.out.c; obtain ⟨y0, y1, y2, y3, y4, -⟩ := By.out.c; clear hb hy hbb)
          obtain ⟨z0, z1⟩ := (L3.out.1.2.1.set [] (.slice none 0 0)).c
          refine bodyPost_ret (v := .tuple #[.agg #[.string ⟨#[]⟩, .slice none 0 0], .int .i64 1]) ?_ rfl ⟨.slice none 0 0, by rw [(FB.out hr).1, (FB.out hr).2], by rw [(FB.out hr).1]; exact stps_nil2 _, bel_set (bel_set L3.out.1.2.2 (by omega) _ _) (by omega) _ _⟩
          simp [results, Try.results6, go_sem, z0, z1]

        | some y =>
          have HP : Hid ((memV q.l[k] pauseB).getD zeroT = y ∧ (memV q.l[k] pauseB).isSome = true) := hidI (by rw [hpm]; exact ⟨rfl, rfl⟩)
          by_cases hy2 : y.kind = 2
          · have e6 : (y.kind == 2) = true := by simp [hy2]
            by_cases h1 : 0 ≤ y.n
            · by_cases h2 : y.n ≤ 1099511627776
              · have hr := step_pause hk2 hpm hy2 h1 h2
                clear hk2 hpm hy2
                go_upto_region 16 with (go_at_call 20; refine (rmember_is _ ok q.l[k] _ pauseB (by exact HI.out)).mono ?_; rintro e w5 ⟨xy, rfl, hb, hy⟩; rw [HP.out.1] at hy; obtain ⟨a9, b9, c9, d9, rfl⟩ := hy.form; rw [HP.out.2]; have By := hidI (show BoxIs (w5.alloc (.cells #[.int .i64 y.kind, .int .i64 y.n, .string ⟨y.s.toArray⟩, .slice a9 y.keys.length c9, .slice b9 y.l.length d9] 25)) w5.heap.size (.int .i64 y.kind) (.int .i64 y.n) (.string ⟨y.s.toArray⟩) (.slice a9 y.keys.length c9) (.slice b9 y.l.length d9) from heap_alloc_new w5 _); have hbb := bel_trans hb (bel_alloc w5 (.cells #[.int .i64 y.kind, .int .i64 y.n, .string ⟨y.s.toArray⟩, .slice a9 y.keys.length c9, .slice b9 y.l.length d9] 25)); have L3 := hidI (L2.out.bel hbb); have Bx3 := hidI (box_bel hbb Bx.out); obtain ⟨t0, t1, t2, t3, t4, -⟩ := L3.out.1.1.c; obtain ⟨p0, p1⟩ := L3.out.1.2.1.c; obtain ⟨f0, f1⟩ := L3.out.1.2.1.cf; obtain ⟨s0, s1⟩ := L3.out.2.1.c; obtain ⟨u0, u1⟩ := L3.out.2.1.cf; obtain ⟨x0, x1, x2, x3, x4, -⟩ := Bx3.out.c; obtain ⟨y0, y1, y2, y3, y4, -⟩ := By.out.c; clear hb hy hbb)
                obtain ⟨a', c', w6, hR, ho6, hg6⟩ := run_pushT (w5.alloc (.cells #[.int .i64 y.kind, .int .i64 y.n, .string ⟨y.s.toArray⟩, .slice a9 y.keys.length c9, .slice b9 y.l.length d9] 25)) _ _ _ _ ⟨-1, y.n⟩ L3.out.2.2.2.1 (by omega) L3.out.2.2.2.2.2.2 26
                have e9 : (w5.alloc (.cells #[.int .i64 y.kind, .int .i64 y.n, .string ⟨y.s.toArray⟩, .slice a9 y.keys.length c9, .slice b9 y.l.length d9] 25)).heap.size = w5.heap.size + 1 := by simp
                rw [e9] at hR
                clear e9
                have P6 := hidI (L3.out.push H0.out ho6 hg6)
                obtain ⟨v0, v1⟩ := P6.out.2.c
                obtain ⟨v2, v3⟩ := P6.out.2.cf
                clear ho6 hg6
                go_wp2_with (at_builtin; go_must (refine Lib.wpList_append_run _ rfl _ _ _ _ rfl (.slice sa k sc) (.slice (some ⟨w5.heap.size + 1, 0, none⟩) 1 1) rfl rfl _ _ hR ?_))
                go_roundg (q.l.length - (k + 1))
                case measure => rw [GK.out]; omega
                case rel => exact ⟨k + 1, xs ++ [⟨-1, y.n⟩], a', c', hlt, hidI rfl, by go_num, hidI (ST.out _ hr), hidI P6.out.1⟩

              · have hr := SN.out (step_other hk2 hpm (.inr (.inr (by omega))))
                clear hk2 hpm hy2
                go_wp2_with (go_at_call 20; refine (rmember_is _ ok q.l[k] _ pauseB (by exact HI.out)).mono ?_; rintro e w5 ⟨xy, rfl, hb, hy⟩; rw [HP.out.1] at hy; obtain ⟨a9, b9, c9, d9, rfl⟩ := hy.form; rw [HP.out.2]; have By := hidI (show BoxIs (w5.alloc (.cells #[.int .i64 y.kind, .int .i64 y.n, .string ⟨y.s.toArray⟩, .slice a9 y.keys.length c9, .slice b9 y.l.length d9] 25)) w5.heap.size (.int .i64 y.kind) (.int .i64 y.n) (.string ⟨y.s.toArray⟩) (.slice a9 y.keys.length c9) (.slice b9 y.l.length d9) from heap_alloc_new w5 _); have hbb := bel_trans hb (bel_alloc w5 (.cells #[.int .i64 y.kind, .int .i64 y.n, .string ⟨y.s.toArray⟩, .slice a9 y.keys.length c9, .slice b9 y.l.length d9] 25)); have L3 := hidI (L2.out.bel hbb); have Bx3 := hidI (box_bel hbb Bx.out); obtain ⟨t0, t1, t2, t3, t4, -⟩ := L3.out.1.1.c; obtain ⟨p0, p1⟩ := L3.out.1.2.1.c; obtain ⟨f0, f1⟩ := L3.out.1.2.1.cf; obtain ⟨s0, s1⟩ := L3.out.2.1.c; obtain ⟨u0, u1⟩ := L3.out.2.1.cf; obtain ⟨x0, x1, x2, x3, x4, -⟩ := Bx3.out.c; obtain ⟨y0, y1, y2, y3, y4, -⟩ := By.out.c; clear hb hy hbb)
                obtain ⟨z0, z1⟩ := (L3.out.1.2.1.set [] (.slice none 0 0)).c
                refine bodyPost_ret (v := .tuple #[.agg #[.string ⟨#[]⟩, .slice none 0 0], .int .i64 1]) ?_ rfl ⟨.slice none 0 0, by rw [(FB.out hr).1, (FB.out hr).2], by rw [(FB.out hr).1]; exact stps_nil2 _, bel_set (bel_set L3.out.1.2.2 (by omega) _ _) (by omega) _ _⟩
                simp [results, Try.results6, go_sem, z0, z1]

            · have hr := SN.out (step_other hk2 hpm (.inr (.inl (by omega))))
              clear hk2 hpm hy2
              go_wp2_with (go_at_call 20; refine (rmember_is _ ok q.l[k] _ pauseB (by exact HI.out)).mono ?_; rintro e w5 ⟨xy, rfl, hb, hy⟩; rw [HP.out.1] at hy; obtain ⟨a9, b9, c9, d9, rfl⟩ := hy.form; rw [HP.out.2]; have By := hidI (show BoxIs (w5.alloc (.cells #[.int .i64 y.kind, .int .i64 y.n, .string ⟨y.s.toArray⟩, .slice a9 y.keys.length c9, .slice b9 y.l.length d9] 25)) w5.heap.size (.int .i64 y.kind) (.int .i64 y.n) (.string ⟨y.s.toArray⟩) (.slice a9 y.keys.length c9) (.slice b9 y.l.length d9) from heap_alloc_new w5 _); have hbb := bel_trans hb (bel_alloc w5 (.cells #[.int .i64 y.kind, .int .i64 y.n, .string ⟨y.s.toArray⟩, .slice a9 y.keys.length c9, .slice b9 y.l.length d9] 25)); have L3 := hidI (L2.out.bel hbb); have Bx3 := hidI (box_bel hbb Bx.out); obtain ⟨t0, t1, t2, t3, t4, -⟩ := L3.out.1.1.c; obtain ⟨p0, p1⟩ := L3.out.1.2.1.c; obtain ⟨f0, f1⟩ := L3.out.1.2.1.cf; obtain ⟨s0, s1⟩ := L3.out.2.1.c; obtain ⟨u0, u1⟩ := L3.out.2.1.cf; obtain ⟨x0, x1, x2, x3, x4, -⟩ := Bx3.out.c; obtain ⟨y0, y1, y2, y3, y4, -⟩ := By.out.c; clear hb hy hbb)
              obtain ⟨z0, z1⟩ := (L3.out.1.2.1.set [] (.slice none 0 0)).c
              refine bodyPost_ret (v := .tuple #[.agg #[.string ⟨#[]⟩, .slice none 0 0], .int .i64 1]) ?_ rfl ⟨.slice none 0 0, by rw [(FB.out hr).1, (FB.out hr).2], by rw [(FB.out hr).1]; exact stps_nil2 _, bel_set (bel_set L3.out.1.2.2 (by omega) _ _) (by omega) _ _⟩
              simp [results, Try.results6, go_sem, z0, z1]

          · have e6 : (y.kind == 2) = false := by simp [hy2]
            have hr := SN.out (step_other hk2 hpm (.inl hy2))
            clear hk2 hpm hy2
            go_wp2_with (go_at_call 20; refine (rmember_is _ ok q.l[k] _ pauseB (by exact HI.out)).mono ?_; rintro e w5 ⟨xy, rfl, hb, hy⟩; rw [HP.out.1] at hy; obtain ⟨a9, b9, c9, d9, rfl⟩ := hy.form; rw [HP.out.2]; have By := hidI (show BoxIs (w5.alloc (.cells #[.int .i64 y.kind, .int .i64 y.n, .string ⟨y.s.toArray⟩, .slice a9 y.keys.length c9, .slice b9 y.l.length d9] 25)) w5.heap.size (.int .i64 y.kind) (.int .i64 y.n) (.string ⟨y.s.toArray⟩) (.slice a9 y.keys.length c9) (.slice b9 y.l.length d9) from heap_alloc_new w5 _); have hbb := bel_trans hb (bel_alloc w5 (.cells #[.int .i64 y.kind, .int .i64 y.n, .string ⟨y.s.toArray⟩, .slice a9 y.keys.length c9, .slice b9 y.l.length d9] 25)); have L3 := hidI (L2.out.bel hbb); have Bx3 := hidI (box_bel hbb Bx.out); obtain ⟨t0, t1, t2, t3, t4, -⟩ := L3.out.1.1.c; obtain ⟨p0, p1⟩ := L3.out.1.2.1.c; obtain ⟨f0, f1⟩ := L3.out.1.2.1.cf; obtain ⟨s0, s1⟩ := L3.out.2.1.c; obtain ⟨u0, u1⟩ := L3.out.2.1.cf; obtain ⟨x0, x1, x2, x3, x4, -⟩ := Bx3.out.c; obtain ⟨y0, y1, y2, y3, y4, -⟩ := By.out.c; clear hb hy hbb)
            obtain ⟨z0, z1⟩ := (L3.out.1.2.1.set [] (.slice none 0 0)).c
            refine bodyPost_ret (v := .tuple #[.agg #[.string ⟨#[]⟩, .slice none 0 0], .int .i64 1]) ?_ rfl ⟨.slice none 0 0, by rw [(FB.out hr).1, (FB.out hr).2], by rw [(FB.out hr).1]; exact stps_nil2 _, bel_set (bel_set L3.out.1.2.2 (by omega) _ _) (by omega) _ _⟩
            simp [results, Try.results6, go_sem, z0, z1]

    · have d1' : ¬ (k : Int) < (q.l.length : Int) := by omega
      have FIN := hidI (FO.out xs (allF_all AX.out hlt))
      have k8 : k ≤ 8 := by have := H8.out; omega
      obtain ⟨s0, s1⟩ := L1.out.2.1.c
      obtain ⟨t0, t1, t2, t3, t4, -⟩ := L1.out.1.1.c; obtain ⟨p0, p1⟩ := L1.out.1.2.1.c; obtain ⟨f0, f1⟩ := L1.out.1.2.1.cf
      go_wp2_with fail
      obtain ⟨z0, z1⟩ := (L1.out.1.2.1.set m.s (.slice sa k sc)).c
      refine bodyPost_ret (v := .tuple #[.agg #[.string ⟨m.s.toArray⟩, .slice sa k sc], .int .i64 0]) ?_ rfl ⟨.slice sa k sc, by rw [FIN.out.1, FIN.out.2], by rw [FIN.out.1]; exact L1.out.done k8 _ _, bel_set (bel_set L1.out.1.2.2 (by omega) _ _) (by omega) _ _⟩
      simp [results, Try.results6, go_sem, z0, z1]

theorem rread_at (w : World) (ok : Nat → Prop) (t : V) (v : Value) (h : In w ok t v) (hN : cnt t ≤ 1000000000000000) : Calls Try.prog 6 #[v] w fun e w' => ∃ sl, e = .returned (.tuple #[.agg #[.string ⟨(readG t).1.toArray⟩, sl], .int .i64 (readE t)]) ∧ StpsAre w' (readG t).2 sl ∧ Below w.heap.size w w' := by
  replace h := h.low
  have h0 : ∀ k, (fun k => ok k ∧ k < w.heap.size) k → k < w.heap.size := fun k hk => hk.2
  cases hg : goodV t with
  | false => exact rread_bad w _ t v h h0 hN hg
  | true =>
    cases hm : memV t imageB with
    | none => exact rread_noimage w _ t v h h0 hN hg hm
    | some m =>
      by_cases hk : m.kind = 3
      · by_cases hs : m.s = []
        · exact rread_empty w _ t v h h0 hN hg m hm hk hs
        · cases hq : memV t stepsB with
          | none => exact rread_short w _ t v h h0 hN hg m hm hk hs zeroT hq rfl
          | some q =>
            by_cases hq4 : q.kind = 4
            · by_cases h8 : q.l.length ≤ 8
              · exact rread_steps w _ t v h h0 hN hg m hm hk hs q hq hq4 h8
              · exact rread_long w _ t v h h0 hN hg m hm hk hs q hq hq4 (by omega)
            · exact rread_kind w _ t v h h0 hN hg m hm hk hs q hq hq4
      · exact rread_notext w _ t v h h0 hN hg m hm hk
end Go.Proofs.Ytaaaogiheplbmaa
