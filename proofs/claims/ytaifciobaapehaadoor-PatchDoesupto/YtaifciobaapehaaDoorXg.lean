/- What added, replaced and removed of package point do. -/
import Derived.Test.YtaifciobaapehaaDoorXd
import Derived.Test.YtaifciobaapehaaDoorXe
import Derived.Test.YtaifciobaapehaaDoorXf
set_option linter.unusedSimpArgs false
set_option linter.unusedVariables false
namespace Go.Proofs.YtaifciobaapehaaDoor
open Go.RowKit

/- The box with the answer, set. -/
theorem set_out {w w1 : World} {ok : Nat → Prop} {C : Nat} {t : V} {g : Nat} {v0 v1 v2 v3 v4 : Value} (h : In w1 (lowN ok w.heap.size C) t (.agg #[v0, v1, v2, v3, v4])) (hb : Below w.heap.size w w1) (hg : w.heap.size ≤ g) (hC : g < C) :
    Below w.heap.size w (set5 w1 g v0 v1 v2 v3 v4) ∧ In (set5 w1 g v0 v1 v2 v3 v4) (okN ok w.heap.size) t (.agg #[v0, v1, v2, v3, v4]) :=
  ⟨bel_set5 hb hg _ _ _ _ _, (h.box hg hC _ _ _ _ _).weak (lowN_out (by omega))⟩

set_option maxRecDepth 100000 in
set_option maxHeartbeats 4000000 in
theorem added_is (w : World) (ok : Nat → Prop) (t x : V) (v xv : Value) (s : List UInt8) (h : In w ok t v) (hx : In w ok x xv) (hn : Nice t) (hs : s.length ≤ 9223372036854775807) :
    Calls Tryd.prog 30 #[v, str s, xv] w fun e w' => ∃ r b, e = .returned (.tuple #[r, .bool b]) ∧ Below w.heap.size w w' ∧ OptIn w' (okN ok w.heap.size) (addedV x t s) r b := by
  have hlen := nice_len hn
  by_cases hk5 : t.kind = 5
  · have HP := hidI (nice_paired hn hk5)
    have HA : Hid (addedV x t s = some (withV t s x)) := hidI (by unfold addedV; rw [if_pos hk5])
    have q1 : (t.kind == 5) = true := by rw [hk5]; rfl
    have H := hidI h.low
    have HX := hidI hx.low
    obtain ⟨l1, l2, l3⟩ := h.lens
    obtain ⟨a1, a2, c1, c2, rfl⟩ := h.form
    obtain ⟨a7, a8, c7, c8, rfl⟩ := hx.form
    clear h hx hk5 hn
    go_enter Tryd.func30, Tryd.ntmps30
    go_wp2_with fail
    refine (with_is _ (fun k => ok k ∧ k < w.heap.size) t x _ _ s (by exact H.out.bel (bel_trans (bel_trans (bel_alloc _ _) (bel_alloc _ _)) (bel_alloc _ _))) (by exact HX.out.bel (bel_trans (bel_trans (bel_alloc _ _) (bel_alloc _ _)) (bel_alloc _ _))) HP.out (by omega) hs).mono ?_
    rintro e w1 ⟨r, rfl, hr, hb1⟩
    obtain ⟨W, hW⟩ : ∃ W, withV t s x = W := ⟨_, rfl⟩
    rw [hW] at hr
    have HW := hidI hW
    clear hW
    obtain ⟨a5, a6, c5, c6, rfl⟩ := hr.form
    have hbx : BoxIs w1 (w.heap.size + 2) (.int .i64 0) (.int .i64 0) (.string ⟨#[]⟩) (.slice none 0 0) (.slice none 0 0) := box_bel hb1 (h3c w _ _ _)
    obtain ⟨x0, x1, x2, x3, x4, y0, y1, y2, y3, y4⟩ := hbx.c
    have Z : Hid (_ ∧ _) := hidI (set_out (g := w.heap.size + 2) hr (bel_trans (bel_trans (bel_trans (bel_alloc _ _) (bel_alloc _ _)) (bel_alloc _ _)) hb1) (by omega) (by simp))
    have ZB : Hid _ := hidI (hbx.set (.int .i64 W.kind) (.int .i64 W.n) (.string ⟨W.s.toArray⟩) (.slice a5 W.keys.length c5) (.slice a6 W.l.length c6))
    clear hr hb1 hbx
    go_wp2_with fail
    obtain ⟨z0, z1, z2, z3, z4, -⟩ := ZB.out.c
    refine bodyPost_ret (v := .tuple #[.agg #[.int .i64 W.kind, .int .i64 W.n, .string ⟨W.s.toArray⟩, .slice a5 W.keys.length c5, .slice a6 W.l.length c6], .bool true]) ?_ rfl ?_
    · simp only [set5] at z0 z1 z2 z3 z4
      simp [results, Tryd.results30, go_sem, z0, z1, z2, z3, z4]
    · refine ⟨_, _, rfl, Z.out.1, ?_⟩
      rw [HA.out, HW.out]
      exact OptIn.some Z.out.2
  · by_cases hk4 : t.kind = 4
    · cases hp : placeP t.l.length s with
      | some i =>
        refine (added_list w ok t x v xv s i h hx hk4 hp (by omega) hs).mono ?_
        rintro e w' ⟨r, rfl, hb, hr⟩
        refine ⟨r, true, rfl, hb, ?_⟩
        have : addedV x t s = some { t with l := t.l.take i ++ x :: t.l.drop i } := by unfold addedV; rw [if_neg hk5, if_pos hk4, hp]; rfl
        rw [this]
        exact OptIn.some hr
      | none =>
        have HA : Hid (addedV x t s = none) := hidI (by unfold addedV; rw [if_neg hk5, if_pos hk4, hp]; rfl)
        have HP := hidI hp
        have q1 : (t.kind == 5) = false := by rw [hk4]; rfl
        have q2 : (t.kind == 4) = true := by rw [hk4]; rfl
        have H := hidI h.low
        obtain ⟨l1, l2, l3⟩ := h.lens
        obtain ⟨a1, a2, c1, c2, rfl⟩ := h.form
        obtain ⟨a7, a8, c7, c8, rfl⟩ := hx.form
        clear h hx hk5 hk4 hn hp
        go_enter Tryd.func30, Tryd.ntmps30
        go_wp2_with fail
        refine (place_at _ _ t.l.length c2 s l2 hs).mono ?_
        rintro e w1 ⟨rfl, hw⟩
        rw [HP.out]
        unfold numV
        have hb1 : Below w.heap.size w w1 := by rw [hw]; exact bel_trans (bel_trans (bel_alloc _ _) (bel_alloc _ _)) (bel_alloc _ _)
        have hbx : BoxIs w1 (w.heap.size + 2) (.int .i64 0) (.int .i64 0) (.string ⟨#[]⟩) (.slice none 0 0) (.slice none 0 0) := by rw [hw]; exact h3c w _ _ _
        have hbv : BoxIs w1 w.heap.size (.int .i64 t.kind) (.int .i64 t.n) (.string ⟨t.s.toArray⟩) (.slice a1 t.keys.length c1) (.slice a2 t.l.length c2) := by rw [hw]; exact h3a w _ _ _
        obtain ⟨p0, p1, p2, p3, p4, -⟩ := hbv.c
        obtain ⟨x0, x1, x2, x3, x4, y0, y1, y2, y3, y4⟩ := hbx.c
        have Z : Hid (_ ∧ _) := hidI (set_out (C := w1.heap.size) (g := w.heap.size + 2) ((H.out.bel hb1).weak (lowN_low (C := w1.heap.size))) hb1 (by omega) hbx.lt)
        have ZB : Hid _ := hidI (hbx.set (.int .i64 t.kind) (.int .i64 t.n) (.string ⟨t.s.toArray⟩) (.slice a1 t.keys.length c1) (.slice a2 t.l.length c2))
        clear hw hb1 hbx hbv
        simp only [Option.getD_none, Option.isSome_none]
        go_wp2_with fail
        obtain ⟨z0, z1, z2, z3, z4, -⟩ := ZB.out.c
        refine bodyPost_ret (v := .tuple #[.agg #[.int .i64 t.kind, .int .i64 t.n, .string ⟨t.s.toArray⟩, .slice a1 t.keys.length c1, .slice a2 t.l.length c2], .bool false]) ?_ rfl ?_
        · simp only [set5] at z0 z1 z2 z3 z4
          simp [results, Tryd.results30, go_sem, z0, z1, z2, z3, z4]
        · refine ⟨_, _, rfl, Z.out.1, ?_⟩
          rw [HA.out]
          exact OptIn.none Z.out.2
    · have HA : Hid (addedV x t s = none) := hidI (by unfold addedV; rw [if_neg hk5, if_neg hk4])
      have q1 : (t.kind == 5) = false := by rw [beq_eq_false_iff_ne]; exact hk5
      have q2 : (t.kind == 4) = false := by rw [beq_eq_false_iff_ne]; exact hk4
      have H := hidI h.low
      obtain ⟨l1, l2, l3⟩ := h.lens
      obtain ⟨a1, a2, c1, c2, rfl⟩ := h.form
      obtain ⟨a7, a8, c7, c8, rfl⟩ := hx.form
      clear h hx hk5 hk4 hn
      obtain ⟨w1, hw⟩ : ∃ w1, w1 = ((w.alloc (.cells #[.int .i64 t.kind, .int .i64 t.n, .string ⟨t.s.toArray⟩, .slice a1 t.keys.length c1, .slice a2 t.l.length c2] 25)).alloc (.cells #[.int .i64 x.kind, .int .i64 x.n, .string ⟨x.s.toArray⟩, .slice a7 x.keys.length c7, .slice a8 x.l.length c8] 25)) := ⟨_, rfl⟩
      have hb2 : Below w.heap.size w (w1.alloc (.cells #[.int .i64 t.kind, .int .i64 t.n, .string ⟨t.s.toArray⟩, .slice a1 t.keys.length c1, .slice a2 t.l.length c2] 25)) := by rw [hw]; exact bel_trans (bel_trans (bel_alloc _ _) (bel_alloc _ _)) (bel_alloc _ _)
      have HB := hidI hb2
      rw [hw] at HB
      have K := hidI ((H.out.bel HB.out).weak (low_out))
      clear hb2 hw w1
      go_enter Tryd.func30, Tryd.ntmps30
      go_wp2_with fail
      refine bodyPost_ret (v := .tuple #[.agg #[.int .i64 t.kind, .int .i64 t.n, .string ⟨t.s.toArray⟩, .slice a1 t.keys.length c1, .slice a2 t.l.length c2], .bool false]) ?_ rfl ?_
      · simp [results, Tryd.results30, go_sem]
      · refine ⟨_, _, rfl, HB.out, ?_⟩
        rw [HA.out]
        exact OptIn.none K.out
end Go.Proofs.YtaifciobaapehaaDoor
