/- What All of package patch does. -/
import Derived.Test.YthaoelchpaofkacDoorYv
set_option linter.unusedSimpArgs false
set_option linter.unusedVariables false
namespace Go.Proofs.YthaoelchpaofkacDoor
open Go.RowKit

/- One by one, till one cannot be done. -/
def runR (f : V → OpT → V × Int) : List OpT → V → V × Int
  | [], t => (t, 0)
  | o :: os, t => if (f t o).2 ≠ 0 then (t, (f t o).2) else runR f os (f t o).1
def allR (f : V → OpT → V × Int) (os : List OpT) (t : V) : V × Int :=
  if 20 < os.length then (t, 2) else if (runR f os t).2 ≠ 0 then (t, (runR f os t).2) else ((runR f os t).1, 0)
/- One does each as is said, where it comes to it. -/
def AllOk (f : V → OpT → V × Int) : List OpT → V → Prop
  | [], _ => True
  | o :: os, t => OneAt (f t o) o t ∧ ((f t o).2 = 0 → AllOk f os (f t o).1)
/- On the way. -/
def AllI (w : World) (ok : Nat → Prop) (f : V → OpT → V × Int) (os : List OpT) (t : V) (a1 a2 : Option Addr) (c1 c2 k : Nat) (wr : World) : Prop :=
  ∃ (y : V) (a5 a6 : Option Addr) (c5 c6 : Nat), runR f os t = runR f (os.drop k) y ∧ AllOk f (os.drop k) y ∧ BoxIs wr w.heap.size (.int .i64 t.kind) (.int .i64 t.n) (.string ⟨t.s.toArray⟩) (.slice a1 t.keys.length c1) (.slice a2 t.l.length c2) ∧ BoxIs wr (w.heap.size + 1) (.int .i64 0) (.int .i64 0) (.string ⟨#[]⟩) (.slice none 0 0) (.slice none 0 0) ∧ BoxIs wr (w.heap.size + 2) (.int .i64 y.kind) (.int .i64 y.n) (.string ⟨y.s.toArray⟩) (.slice a5 y.keys.length c5) (.slice a6 y.l.length c6) ∧ Below w.heap.size w wr ∧ In wr (lowN ok w.heap.size (w.heap.size + 3)) y (.agg #[.int .i64 y.kind, .int .i64 y.n, .string ⟨y.s.toArray⟩, .slice a5 y.keys.length c5, .slice a6 y.l.length c6])
theorem OpsAre.item {w : World} {ok : Nat → Prop} {os : List OpT} {a : Option Addr} {m c k : Nat} (h : OpsAre w ok os (.slice a m c)) (hk : k < os.length) : ∃ (b off : Nat) (a7 a8 : Option Addr) (c7 c8 : Nat), a = some ⟨b, off, none⟩ ∧ os.length ≤ c ∧ c ≤ 9223372036854775807 ∧
    w.cell? ⟨b, off + k * 8, none⟩ = some (.int .i64 os[k].kind) ∧ w.cell? ⟨b, off + k * 8 + 1, none⟩ = some (.string ⟨os[k].path.toArray⟩) ∧ w.cell? ⟨b, off + k * 8 + 2, none⟩ = some (.string ⟨os[k].frm.toArray⟩) ∧ w.cell? ⟨b, off + k * 8 + 3, none⟩ = some (.int .i64 os[k].value.kind) ∧
    w.cell? ⟨b, off + k * 8 + 4, none⟩ = some (.int .i64 os[k].value.n) ∧ w.cell? ⟨b, off + k * 8 + 5, none⟩ = some (.string ⟨os[k].value.s.toArray⟩) ∧ w.cell? ⟨b, off + k * 8 + 6, none⟩ = some (.slice a7 os[k].value.keys.length c7) ∧ w.cell? ⟨b, off + k * 8 + 7, none⟩ = some (.slice a8 os[k].value.l.length c8) ∧ OpIn w ok os[k] (.agg #[.int .i64 os[k].kind, .string ⟨os[k].path.toArray⟩, .string ⟨os[k].frm.toArray⟩, .int .i64 os[k].value.kind, .int .i64 os[k].value.n, .string ⟨os[k].value.s.toArray⟩, .slice a7 os[k].value.keys.length c7, .slice a8 os[k].value.l.length c8]) := by
  rcases h.2 with ⟨e, _⟩ | ⟨b, off, c', e, h1, h2, hcs⟩
  · rw [e] at hk; simp at hk
  · simp only [Value.slice.injEq] at e
    obtain ⟨rfl, -, rfl⟩ := e
    obtain ⟨v0, v1, v2, v3, v4, v5, v6, v7, -, g0, g1, g2, g3, g4, g5, g6, g7, g8⟩ := hcs k os[k] (List.getElem?_eq_getElem hk)
    have g9 := g8
    obtain ⟨o1, o2, o3, a7, a8, c7, c8, e, -⟩ := g8
    simp only [Value.agg.injEq, Array.mk.injEq, List.cons.injEq, and_true] at e
    obtain ⟨rfl, rfl, rfl, rfl, rfl, rfl, rfl, rfl⟩ := e
    exact ⟨b, off, a7, a8, c7, c8, rfl, h1, h2, g0, g1, g2, g3, g4, g5, g6, g7, g9⟩

set_option maxRecDepth 100000 in
set_option maxHeartbeats 40000000 in
theorem all_is (f : V → OpT → V × Int) (w : World) (ok : Nat → Prop) (t : V) (os : List OpT) (v ov : Value) (h : In w ok t v) (ho : OpsAre w ok os ov) (hM : GlobM w) (hok : os.length ≤ 20 → AllOk f os t) :
    Calls Tryd.prog 13 #[v, ov] w fun e w' => ∃ r, e = .returned (.tuple #[r, .int .i64 (allR f os t).2]) ∧ Below w.heap.size w w' ∧ In w' (okN ok w.heap.size) (allR f os t).1 r := by
  have H := hidI h.low
  have HMM := hidI hM
  have HOS := hidI ho
  have olen := ho.1
  obtain ⟨l1, l2, l3⟩ := h.lens
  obtain ⟨a1, a2, c1, c2, rfl⟩ := h.form
  obtain ⟨oa, oc, rfl⟩ := ho.form
  clear h hM ho
  by_cases h20 : 20 < os.length
  · have e0 : (20 : Int) < (os.length : Int) := by omega
    have HA : Hid (allR f os t = (t, 2)) := hidI (by unfold allR; rw [if_pos h20])
    have HB : Hid (Below w.heap.size w ((w.alloc (.cells #[.int .i64 t.kind, .int .i64 t.n, .string ⟨t.s.toArray⟩, .slice a1 t.keys.length c1, .slice a2 t.l.length c2] 25)).alloc (.cells #[.int .i64 t.kind, .int .i64 t.n, .string ⟨t.s.toArray⟩, .slice a1 t.keys.length c1, .slice a2 t.l.length c2] 25))) := bel_trans (bel_alloc _ _) (bel_alloc _ _)
    have K := hidI ((H.out.bel HB.out).weak (low_out))
    clear h20 hok
    go_enter Tryd.func13, Tryd.ntmps13
    go_wp2_with fail
    refine bodyPost_ret (v := .tuple #[.agg #[.int .i64 t.kind, .int .i64 t.n, .string ⟨t.s.toArray⟩, .slice a1 t.keys.length c1, .slice a2 t.l.length c2], .int .i64 2]) ?_ rfl ?_
    · simp [results, Tryd.results13, go_sem]
    · refine ⟨_, by rw [HA.out], HB.out, ?_⟩
      rw [HA.out]
      exact K.out
  · have e0 : ¬ ((20 : Int) < (os.length : Int)) := by omega
    have HR : Hid (allR f os t = if (runR f os t).2 ≠ 0 then (t, (runR f os t).2) else ((runR f os t).1, 0)) := hidI (by unfold allR; rw [if_neg h20])
    have B3 : Hid (∀ o1 o2 o3, Below w.heap.size w (((w.alloc o1).alloc o2).alloc o3)) := fun o1 o2 o3 => bel_trans (bel_trans (bel_alloc _ _) (bel_alloc _ _)) (bel_alloc _ _)
    have S0 : Hid (∀ W : World, W = ((w.alloc (.cells #[.int .i64 t.kind, .int .i64 t.n, .string ⟨t.s.toArray⟩, .slice a1 t.keys.length c1, .slice a2 t.l.length c2] 25)).alloc (.cells #[.int .i64 0, .int .i64 0, .string ⟨#[]⟩, .slice none 0 0, .slice none 0 0] 25)).alloc (.cells #[.int .i64 t.kind, .int .i64 t.n, .string ⟨t.s.toArray⟩, .slice a1 t.keys.length c1, .slice a2 t.l.length c2] 25) → AllI w ok f os t a1 a2 c1 c2 0 W) := by
      rintro W rfl
      exact ⟨t, a1, a2, c1, c2, rfl, hok (by omega), h3a w _ _ _, h3b w _ _ _, h3c w _ _ _, B3.out _ _ _, (H.out.bel (B3.out _ _ _)).weak lowN_low⟩
    clear hok h20
    go_enter Tryd.func13, Tryd.ntmps13
    go_wp2_with fail
    go_loopg [18] os.length (fun gk i wr => ∃ k : Nat, k ≤ os.length ∧ gk = os.length - k ∧ i = .int .i64 k ∧ AllI w ok f os t a1 a2 c1 c2 k wr)
    case atStart => exact ⟨0, Nat.zero_le _, rfl, rfl, S0.out _ rfl⟩
    case round =>
      obtain ⟨k, hk, hgk, rfl, y, a5, a6, c5, c6, i1, i2, i3, i4, i5, i6, i7⟩ := hrel
      have GK := hidI hgk
      have I : Hid (runR f os t = runR f (os.drop k) y ∧ AllOk f (os.drop k) y ∧ BoxIs wr w.heap.size (.int .i64 t.kind) (.int .i64 t.n) (.string ⟨t.s.toArray⟩) (.slice a1 t.keys.length c1) (.slice a2 t.l.length c2) ∧ BoxIs wr (w.heap.size + 1) (.int .i64 0) (.int .i64 0) (.string ⟨#[]⟩) (.slice none 0 0) (.slice none 0 0) ∧ BoxIs wr (w.heap.size + 2) (.int .i64 y.kind) (.int .i64 y.n) (.string ⟨y.s.toArray⟩) (.slice a5 y.keys.length c5) (.slice a6 y.l.length c6) ∧ Below w.heap.size w wr ∧ In wr (lowN ok w.heap.size (w.heap.size + 3)) y (.agg #[.int .i64 y.kind, .int .i64 y.n, .string ⟨y.s.toArray⟩, .slice a5 y.keys.length c5, .slice a6 y.l.length c6])) := ⟨i1, i2, i3, i4, i5, i6, i7⟩
      have hwsz := i5.lt
      clear hgk i1 i2 i3 i4 i5 i6 i7
      by_cases hlt : k < os.length
      · obtain ⟨b, off, a7, a8, c7, c8, rfl, hc1, hc2, g0, g1, g2, g3, g4, g5, g6, g7, g8⟩ := HOS.out.item hlt
        have OK := hidI (g8.low)
        replace g0 := cell_bel I.out.2.2.2.2.2.1 g0
        replace g1 := cell_bel I.out.2.2.2.2.2.1 g1
        replace g2 := cell_bel I.out.2.2.2.2.2.1 g2
        replace g3 := cell_bel I.out.2.2.2.2.2.1 g3
        replace g4 := cell_bel I.out.2.2.2.2.2.1 g4
        replace g5 := cell_bel I.out.2.2.2.2.2.1 g5
        replace g6 := cell_bel I.out.2.2.2.2.2.1 g6
        replace g7 := cell_bel I.out.2.2.2.2.2.1 g7
        have RS : Hid (runR f (os.drop k) y = if (f y os[k]).2 ≠ 0 then (y, (f y os[k]).2) else runR f (os.drop (k + 1)) (f y os[k]).1) := hidI (by rw [List.drop_eq_getElem_cons hlt, runR])
        have AO : Hid (OneAt (f y os[k]) os[k] y ∧ ((f y os[k]).2 = 0 → AllOk f (os.drop (k + 1)) (f y os[k]).1)) := hidI (by have := I.out.2.1; rw [List.drop_eq_getElem_cons hlt, AllOk] at this; exact this)
        have hb8 := bel_alloc wr (.cells #[.int .i64 os[k].kind, .string ⟨os[k].path.toArray⟩, .string ⟨os[k].frm.toArray⟩, .int .i64 os[k].value.kind, .int .i64 os[k].value.n, .string ⟨os[k].value.s.toArray⟩, .slice a7 os[k].value.keys.length c7, .slice a8 os[k].value.l.length c8] 39)
        obtain ⟨p0, p1, p2, p3, p4, -⟩ := (box_bel hb8 I.out.2.2.2.2.1).c
        clear g8
        go_wp2_with fail
        refine (AO.out.1 _ (lowN ok w.heap.size (w.heap.size + 3)) _ _ (by exact I.out.2.2.2.2.2.2.bel (bel_alloc _ _)) (by exact (OK.out.bel (bel_trans I.out.2.2.2.2.2.1 (bel_alloc _ _))).weak lowN_low) (by exact HMM.out.bel (bel_trans I.out.2.2.2.2.2.1 (bel_alloc _ _)))).mono ?_
        rintro e w2 ⟨r, rfl, hb2, hr⟩
        obtain ⟨q, hq⟩ : ∃ q, f y os[k] = q := ⟨_, rfl⟩
        rw [hq] at hr AO RS ⊢
        obtain ⟨z, ze⟩ := q
        simp only at hr AO RS ⊢
        obtain ⟨a3, a4, c3, c4, rfl⟩ := hr.form
        have hbb := bel_trans (bel_trans hb8 hb2) (bel_alloc w2 (.cells #[.int .i64 z.kind, .int .i64 z.n, .string ⟨z.s.toArray⟩, .slice a3 z.keys.length c3, .slice a4 z.l.length c4] 25))
        have hr' : In (w2.alloc (.cells #[.int .i64 z.kind, .int .i64 z.n, .string ⟨z.s.toArray⟩, .slice a3 z.keys.length c3, .slice a4 z.l.length c4] 25)) (lowN ok w.heap.size (w.heap.size + 3)) z (.agg #[.int .i64 z.kind, .int .i64 z.n, .string ⟨z.s.toArray⟩, .slice a3 z.keys.length c3, .slice a4 z.l.length c4]) := (hr.bel (bel_alloc _ _)).weak (fun j hj => by
          rcases hj with hj | hj
          · exact hj
          · have := hb8.size; exact .inr (by omega))
        have K : Hid (BoxIs (w2.alloc (.cells #[.int .i64 z.kind, .int .i64 z.n, .string ⟨z.s.toArray⟩, .slice a3 z.keys.length c3, .slice a4 z.l.length c4] 25)) w.heap.size (.int .i64 t.kind) (.int .i64 t.n) (.string ⟨t.s.toArray⟩) (.slice a1 t.keys.length c1) (.slice a2 t.l.length c2) ∧ BoxIs (w2.alloc (.cells #[.int .i64 z.kind, .int .i64 z.n, .string ⟨z.s.toArray⟩, .slice a3 z.keys.length c3, .slice a4 z.l.length c4] 25)) (w.heap.size + 1) (.int .i64 0) (.int .i64 0) (.string ⟨#[]⟩) (.slice none 0 0) (.slice none 0 0) ∧ BoxIs (w2.alloc (.cells #[.int .i64 z.kind, .int .i64 z.n, .string ⟨z.s.toArray⟩, .slice a3 z.keys.length c3, .slice a4 z.l.length c4] 25)) (w.heap.size + 2) (.int .i64 y.kind) (.int .i64 y.n) (.string ⟨y.s.toArray⟩) (.slice a5 y.keys.length c5) (.slice a6 y.l.length c6) ∧ Below w.heap.size w (w2.alloc (.cells #[.int .i64 z.kind, .int .i64 z.n, .string ⟨z.s.toArray⟩, .slice a3 z.keys.length c3, .slice a4 z.l.length c4] 25)) ∧ In (w2.alloc (.cells #[.int .i64 z.kind, .int .i64 z.n, .string ⟨z.s.toArray⟩, .slice a3 z.keys.length c3, .slice a4 z.l.length c4] 25)) (lowN ok w.heap.size (w.heap.size + 3)) z (.agg #[.int .i64 z.kind, .int .i64 z.n, .string ⟨z.s.toArray⟩, .slice a3 z.keys.length c3, .slice a4 z.l.length c4]) ∧ BoxIs (w2.alloc (.cells #[.int .i64 z.kind, .int .i64 z.n, .string ⟨z.s.toArray⟩, .slice a3 z.keys.length c3, .slice a4 z.l.length c4] 25)) w2.heap.size (.int .i64 z.kind) (.int .i64 z.n) (.string ⟨z.s.toArray⟩) (.slice a3 z.keys.length c3) (.slice a4 z.l.length c4)) := ⟨box_bel hbb I.out.2.2.1, box_bel hbb I.out.2.2.2.1, box_bel hbb I.out.2.2.2.2.1, bel_trans I.out.2.2.2.2.2.1 hbb, hr', heap_alloc_new w2 _⟩
        clear hq hr hr' hb2 hbb hb8 p0 p1 p2 p3 p4 g0 g1 g2 g3 g4 g5 g6 g7
        by_cases hze : ze = 0
        · subst hze
          have FIN : Hid (AllI w ok f os t a1 a2 c1 c2 (k + 1) (set5 (w2.alloc (.cells #[.int .i64 z.kind, .int .i64 z.n, .string ⟨z.s.toArray⟩, .slice a3 z.keys.length c3, .slice a4 z.l.length c4] 25)) (w.heap.size + 2) (.int .i64 z.kind) (.int .i64 z.n) (.string ⟨z.s.toArray⟩) (.slice a3 z.keys.length c3) (.slice a4 z.l.length c4))) := by
            have g1 := set5_gb (w2.alloc (.cells #[.int .i64 z.kind, .int .i64 z.n, .string ⟨z.s.toArray⟩, .slice a3 z.keys.length c3, .slice a4 z.l.length c4] 25)) (w.heap.size + 2) (.int .i64 z.kind) (.int .i64 z.n) (.string ⟨z.s.toArray⟩) (.slice a3 z.keys.length c3) (.slice a4 z.l.length c4)
            refine ⟨z, a3, a4, c3, c4, ?_, AO.out.2 rfl, K.out.1.grown g1 (by simp), K.out.2.1.grown g1 (by simp), K.out.2.2.1.set _ _ _ _ _, bel_set5 K.out.2.2.2.1 (by omega) _ _ _ _ _, K.out.2.2.2.2.1.box (by omega) (by omega) _ _ _ _ _⟩
            rw [I.out.1, RS.out]; simp
          obtain ⟨p0, p1, p2, p3, p4, p5, p6, p7, p8, p9⟩ := K.out.2.2.1.c
          obtain ⟨q0, q1, q2, q3, q4, -⟩ := K.out.2.2.2.2.2.c
          clear K
          go_wp2_with fail
          go_roundg (os.length - (k + 1))
          case measure => rw [GK.out]; omega
          case rel => exact ⟨k + 1, hlt, rfl, by go_num, FIN.out⟩
        · have e1 : (ze != 0) = true := by rw [bne_iff_ne]; exact hze
          have e2 : (ze == 0) = false := by rw [beq_eq_false_iff_ne]; exact hze
          have HZE := hidI hze
          clear hze
          obtain ⟨p0, p1, p2, p3, p4, -⟩ := (K.out.1).c
          obtain ⟨x0, x1, x2, x3, x4, y0, y1, y2, y3, y4⟩ := (K.out.2.1).c
          have Z : Hid (_ ∧ _) := hidI (set_out (C := ((w2.alloc (.cells #[.int .i64 z.kind, .int .i64 z.n, .string ⟨z.s.toArray⟩, .slice a3 z.keys.length c3, .slice a4 z.l.length c4] 25))).heap.size) (g := w.heap.size + 1) ((H.out.bel K.out.2.2.2.1).weak (lowN_low (C := ((w2.alloc (.cells #[.int .i64 z.kind, .int .i64 z.n, .string ⟨z.s.toArray⟩, .slice a3 z.keys.length c3, .slice a4 z.l.length c4] 25))).heap.size))) K.out.2.2.2.1 (by omega) (K.out.2.1).lt)
          have ZB : Hid _ := hidI ((K.out.2.1).set (.int .i64 t.kind) (.int .i64 t.n) (.string ⟨t.s.toArray⟩) (.slice a1 t.keys.length c1) (.slice a2 t.l.length c2))
          have HA : Hid (allR f os t = (t, ze)) := hidI (by rw [HR.out, I.out.1, RS.out, if_pos HZE.out]; simp only; rw [if_pos HZE.out])
          clear K
          go_wp2_with fail
          obtain ⟨z0, z1, z2, z3, z4, -⟩ := ZB.out.c
          refine bodyPost_ret (v := .tuple #[.agg #[.int .i64 t.kind, .int .i64 t.n, .string ⟨t.s.toArray⟩, .slice a1 t.keys.length c1, .slice a2 t.l.length c2], .int .i64 ze]) ?_ rfl ?_
          · simp only [set5] at z0 z1 z2 z3 z4
            simp [results, Tryd.results13, go_sem, z0, z1, z2, z3, z4]
          · refine ⟨_, by rw [HA.out], Z.out.1, ?_⟩
            rw [HA.out]
            exact Z.out.2
      · have hke : k = os.length := by omega
        subst hke
        have HA : Hid (allR f os t = (y, 0)) := hidI (by rw [HR.out, I.out.1, List.drop_length]; simp [runR])
        obtain ⟨p0, p1, p2, p3, p4, -⟩ := I.out.2.2.2.2.1.c
        obtain ⟨x0, x1, x2, x3, x4, y0, y1, y2, y3, y4⟩ := I.out.2.2.2.1.c
        have Z : Hid (_ ∧ _) := hidI (set_out (g := w.heap.size + 1) I.out.2.2.2.2.2.2 I.out.2.2.2.2.2.1 (by omega) (by omega))
        have ZB : Hid _ := hidI (I.out.2.2.2.1.set (.int .i64 y.kind) (.int .i64 y.n) (.string ⟨y.s.toArray⟩) (.slice a5 y.keys.length c5) (.slice a6 y.l.length c6))
        go_wp2_with fail
        obtain ⟨z0, z1, z2, z3, z4, -⟩ := ZB.out.c
        refine bodyPost_ret (v := .tuple #[.agg #[.int .i64 y.kind, .int .i64 y.n, .string ⟨y.s.toArray⟩, .slice a5 y.keys.length c5, .slice a6 y.l.length c6], .int .i64 0]) ?_ rfl ?_
        · simp only [set5] at z0 z1 z2 z3 z4
          simp [results, Tryd.results13, go_sem, z0, z1, z2, z3, z4]
        · refine ⟨_, by rw [HA.out], Z.out.1, ?_⟩
          rw [HA.out]
          exact Z.out.2
end Go.Proofs.YthaoelchpaofkacDoor
