/- What replaced and removed of package point do. -/
import Derived.Test.YtaifciobaapehaaDoorXg
set_option linter.unusedSimpArgs false
set_option linter.unusedVariables false
namespace Go.Proofs.YtaifciobaapehaaDoor
open Go.RowKit

set_option maxRecDepth 100000 in
set_option maxHeartbeats 4000000 in
theorem replaced_is (w : World) (ok : Nat → Prop) (t x : V) (v xv : Value) (s : List UInt8) (h : In w ok t v) (hx : In w ok x xv) (hn : Nice t) (hs : s.length ≤ 9223372036854775807) :
    Calls Tryd.prog 34 #[v, str s, xv] w fun e w' => ∃ r b, e = .returned (.tuple #[r, .bool b]) ∧ Below w.heap.size w w' ∧ OptIn w' (okN ok w.heap.size) (replacedV x t s) r b := by
  have hlen := nice_len hn
  cases hm : meantV t s with
  | none =>
    have HM := hidI hm
    have HA : Hid (replacedV x t s = none) := hidI (by unfold replacedV; rw [hm]; rfl)
    clear hm
    have H := hidI h.low
    have HX := hidI hx.low
    obtain ⟨l1, l2, l3⟩ := h.lens
    obtain ⟨a1, a2, c1, c2, rfl⟩ := h.form
    obtain ⟨a7, a8, c7, c8, rfl⟩ := hx.form
    clear h hx hn
    go_enter Tryd.func34, Tryd.ntmps34
    go_wp2_with fail
    refine (meant_is _ (fun k => ok k ∧ k < w.heap.size) t _ s (by exact H.out.bel (bel_trans (bel_trans (bel_alloc _ _) (bel_alloc _ _)) (bel_alloc _ _))) hs).mono ?_
    rintro e w0 ⟨x9, b9, rfl, hb0, hb9, y9, hy9, -⟩
    rw [HM.out] at hb9
    simp only [Option.isSome_none] at hb9
    subst hb9
    obtain ⟨a5, a6, c5, c6, rfl⟩ := hy9.form
    have M1 : Hid (BoxIs (w0.alloc (.cells #[.int .i64 y9.kind, .int .i64 y9.n, .string ⟨y9.s.toArray⟩, .slice a5 y9.keys.length c5, .slice a6 y9.l.length c6] 25)) w.heap.size (.int .i64 t.kind) (.int .i64 t.n) (.string ⟨t.s.toArray⟩) (.slice a1 t.keys.length c1) (.slice a2 t.l.length c2) ∧ BoxIs (w0.alloc (.cells #[.int .i64 y9.kind, .int .i64 y9.n, .string ⟨y9.s.toArray⟩, .slice a5 y9.keys.length c5, .slice a6 y9.l.length c6] 25)) (w.heap.size + 1) (.int .i64 x.kind) (.int .i64 x.n) (.string ⟨x.s.toArray⟩) (.slice a7 x.keys.length c7) (.slice a8 x.l.length c8) ∧ BoxIs (w0.alloc (.cells #[.int .i64 y9.kind, .int .i64 y9.n, .string ⟨y9.s.toArray⟩, .slice a5 y9.keys.length c5, .slice a6 y9.l.length c6] 25)) (w.heap.size + 2) (.int .i64 0) (.int .i64 0) (.string ⟨#[]⟩) (.slice none 0 0) (.slice none 0 0) ∧ Below w.heap.size w (w0.alloc (.cells #[.int .i64 y9.kind, .int .i64 y9.n, .string ⟨y9.s.toArray⟩, .slice a5 y9.keys.length c5, .slice a6 y9.l.length c6] 25))) := by
      have hbb := bel_trans hb0 (bel_alloc w0 (.cells #[.int .i64 y9.kind, .int .i64 y9.n, .string ⟨y9.s.toArray⟩, .slice a5 y9.keys.length c5, .slice a6 y9.l.length c6] 25))
      exact ⟨box_bel hbb (h3a w _ _ _), box_bel hbb (h3b w _ _ _), box_bel hbb (h3c w _ _ _), bel_trans (bel_trans (bel_trans (bel_alloc _ _) (bel_alloc _ _)) (bel_alloc _ _)) hbb⟩
    obtain ⟨m1, mx, m2, m3⟩ := M1.out
    obtain ⟨n0, n1, n2, n3, n4, -⟩ := m1.c
    obtain ⟨x0, x1, x2, x3, x4, y0, y1, y2, y3, y4⟩ := m2.c
    have Z : Hid (_ ∧ _) := hidI (set_out (C := (w0.alloc (.cells #[.int .i64 y9.kind, .int .i64 y9.n, .string ⟨y9.s.toArray⟩, .slice a5 y9.keys.length c5, .slice a6 y9.l.length c6] 25)).heap.size) (g := w.heap.size + 2) ((H.out.bel m3).weak (lowN_low (C := (w0.alloc (.cells #[.int .i64 y9.kind, .int .i64 y9.n, .string ⟨y9.s.toArray⟩, .slice a5 y9.keys.length c5, .slice a6 y9.l.length c6] 25)).heap.size))) m3 (by omega) m2.lt)
    have ZB : Hid _ := hidI (m2.set (.int .i64 t.kind) (.int .i64 t.n) (.string ⟨t.s.toArray⟩) (.slice a1 t.keys.length c1) (.slice a2 t.l.length c2))
    clear hb0 hy9 m1 mx m2 m3 M1
    go_wp2_with fail
    obtain ⟨z0, z1, z2, z3, z4, -⟩ := ZB.out.c
    refine bodyPost_ret (v := .tuple #[.agg #[.int .i64 t.kind, .int .i64 t.n, .string ⟨t.s.toArray⟩, .slice a1 t.keys.length c1, .slice a2 t.l.length c2], .bool false]) ?_ rfl ?_
    · simp only [set5] at z0 z1 z2 z3 z4
      simp [results, Tryd.results34, go_sem, z0, z1, z2, z3, z4]
    · refine ⟨_, _, rfl, Z.out.1, ?_⟩
      rw [HA.out]
      exact OptIn.none Z.out.2
  | some y =>
    rcases meant_kind hm with ⟨hk, hp, -⟩ | ⟨hk, i, hi, hlt, -⟩
    · have HM := hidI hm
      have HP := hidI hp
      have HA : Hid (replacedV x t s = some (withV t s x)) := hidI (by unfold replacedV; rw [hm, Option.bind_some, if_pos hk])
      have q1 : (t.kind == 5) = true := by rw [hk]; rfl
      clear hm hp hk
      have H := hidI h.low
      have HX := hidI hx.low
      obtain ⟨l1, l2, l3⟩ := h.lens
      obtain ⟨a1, a2, c1, c2, rfl⟩ := h.form
      obtain ⟨a7, a8, c7, c8, rfl⟩ := hx.form
      clear h hx hn
      go_enter Tryd.func34, Tryd.ntmps34
      go_wp2_with fail
      refine (meant_is _ (fun k => ok k ∧ k < w.heap.size) t _ s (by exact H.out.bel (bel_trans (bel_trans (bel_alloc _ _) (bel_alloc _ _)) (bel_alloc _ _))) hs).mono ?_
      rintro e w0 ⟨x9, b9, rfl, hb0, hb9, y9, hy9, -⟩
      rw [HM.out] at hb9
      simp only [Option.isSome_some] at hb9
      subst hb9
      obtain ⟨a5, a6, c5, c6, rfl⟩ := hy9.form
      have M1 : Hid (BoxIs (w0.alloc (.cells #[.int .i64 y9.kind, .int .i64 y9.n, .string ⟨y9.s.toArray⟩, .slice a5 y9.keys.length c5, .slice a6 y9.l.length c6] 25)) w.heap.size (.int .i64 t.kind) (.int .i64 t.n) (.string ⟨t.s.toArray⟩) (.slice a1 t.keys.length c1) (.slice a2 t.l.length c2) ∧ BoxIs (w0.alloc (.cells #[.int .i64 y9.kind, .int .i64 y9.n, .string ⟨y9.s.toArray⟩, .slice a5 y9.keys.length c5, .slice a6 y9.l.length c6] 25)) (w.heap.size + 1) (.int .i64 x.kind) (.int .i64 x.n) (.string ⟨x.s.toArray⟩) (.slice a7 x.keys.length c7) (.slice a8 x.l.length c8) ∧ BoxIs (w0.alloc (.cells #[.int .i64 y9.kind, .int .i64 y9.n, .string ⟨y9.s.toArray⟩, .slice a5 y9.keys.length c5, .slice a6 y9.l.length c6] 25)) (w.heap.size + 2) (.int .i64 0) (.int .i64 0) (.string ⟨#[]⟩) (.slice none 0 0) (.slice none 0 0) ∧ Below w.heap.size w (w0.alloc (.cells #[.int .i64 y9.kind, .int .i64 y9.n, .string ⟨y9.s.toArray⟩, .slice a5 y9.keys.length c5, .slice a6 y9.l.length c6] 25))) := by
        have hbb := bel_trans hb0 (bel_alloc w0 (.cells #[.int .i64 y9.kind, .int .i64 y9.n, .string ⟨y9.s.toArray⟩, .slice a5 y9.keys.length c5, .slice a6 y9.l.length c6] 25))
        exact ⟨box_bel hbb (h3a w _ _ _), box_bel hbb (h3b w _ _ _), box_bel hbb (h3c w _ _ _), bel_trans (bel_trans (bel_trans (bel_alloc _ _) (bel_alloc _ _)) (bel_alloc _ _)) hbb⟩
      obtain ⟨m1, mx, m2, m3⟩ := M1.out
      obtain ⟨n0, n1, n2, n3, n4, -⟩ := m1.c
      obtain ⟨o0, o1, o2, o3, o4, -⟩ := mx.c
      clear hb0 hy9 m1 mx m2 m3
      go_wp2_with fail
      refine (with_is _ (fun k => ok k ∧ k < w.heap.size) t x _ _ s (by exact H.out.bel M1.out.2.2.2) (by exact HX.out.bel M1.out.2.2.2) HP.out (by omega) hs).mono ?_
      rintro e w1 ⟨r, rfl, hr, hb1⟩
      obtain ⟨W, hW⟩ : ∃ W, withV t s x = W := ⟨_, rfl⟩
      rw [hW] at hr
      have HW := hidI hW
      clear hW
      obtain ⟨d1, d2, e1, e2, rfl⟩ := hr.form
      have hbx := box_bel hb1 M1.out.2.2.1
      obtain ⟨x0, x1, x2, x3, x4, y0, y1, y2, y3, y4⟩ := hbx.c
      have Z : Hid (_ ∧ _) := hidI (set_out (g := w.heap.size + 2) hr (bel_trans M1.out.2.2.2 hb1) (by omega) M1.out.2.2.1.lt)
      have ZB : Hid _ := hidI (hbx.set (.int .i64 W.kind) (.int .i64 W.n) (.string ⟨W.s.toArray⟩) (.slice d1 W.keys.length e1) (.slice d2 W.l.length e2))
      clear hr hb1 hbx n0 n1 n2 n3 n4
      go_wp2_with fail
      obtain ⟨z0, z1, z2, z3, z4, -⟩ := ZB.out.c
      refine bodyPost_ret (v := .tuple #[.agg #[.int .i64 W.kind, .int .i64 W.n, .string ⟨W.s.toArray⟩, .slice d1 W.keys.length e1, .slice d2 W.l.length e2], .bool true]) ?_ rfl ?_
      · simp only [set5] at z0 z1 z2 z3 z4
        simp [results, Tryd.results34, go_sem, z0, z1, z2, z3, z4]
      · refine ⟨_, _, rfl, Z.out.1, ?_⟩
        rw [HA.out, HW.out]
        exact OptIn.some Z.out.2
    · refine (replaced_list w ok t x v xv s i h hx hk hi hlt (by omega) hs).mono ?_
      rintro e w' ⟨r, rfl, hb, hr⟩
      refine ⟨r, true, rfl, hb, ?_⟩
      have : replacedV x t s = some { t with l := t.l.take i ++ x :: t.l.drop (i + 1) } := by unfold replacedV; rw [hm, Option.bind_some, if_neg (by omega), hi]; rfl
      rw [this]
      exact OptIn.some hr

set_option maxRecDepth 100000 in
set_option maxHeartbeats 4000000 in
theorem removed_is (w : World) (ok : Nat → Prop) (t : V) (v : Value) (s : List UInt8) (h : In w ok t v) (hn : Nice t) (hs : s.length ≤ 9223372036854775807) :
    Calls Tryd.prog 33 #[v, str s] w fun e w' => ∃ r b, e = .returned (.tuple #[r, .bool b]) ∧ Below w.heap.size w w' ∧ OptIn w' (okN ok w.heap.size) (removedV t s) r b := by
  have hlen := nice_len hn
  cases hm : meantV t s with
  | none =>
    have HM := hidI hm
    have HA : Hid (removedV t s = none) := hidI (by unfold removedV; rw [hm]; rfl)
    clear hm
    have H := hidI h.low
    obtain ⟨l1, l2, l3⟩ := h.lens
    obtain ⟨a1, a2, c1, c2, rfl⟩ := h.form
    clear h hn
    go_enter Tryd.func33, Tryd.ntmps33
    go_wp2_with fail
    refine (meant_is _ (fun k => ok k ∧ k < w.heap.size) t _ s (by exact H.out.bel (bel_trans (bel_alloc _ _) (bel_alloc _ _))) hs).mono ?_
    rintro e w0 ⟨x9, b9, rfl, hb0, hb9, y9, hy9, -⟩
    rw [HM.out] at hb9
    simp only [Option.isSome_none] at hb9
    subst hb9
    obtain ⟨a5, a6, c5, c6, rfl⟩ := hy9.form
    have M1 : Hid (BoxIs (w0.alloc (.cells #[.int .i64 y9.kind, .int .i64 y9.n, .string ⟨y9.s.toArray⟩, .slice a5 y9.keys.length c5, .slice a6 y9.l.length c6] 25)) w.heap.size (.int .i64 t.kind) (.int .i64 t.n) (.string ⟨t.s.toArray⟩) (.slice a1 t.keys.length c1) (.slice a2 t.l.length c2) ∧ BoxIs (w0.alloc (.cells #[.int .i64 y9.kind, .int .i64 y9.n, .string ⟨y9.s.toArray⟩, .slice a5 y9.keys.length c5, .slice a6 y9.l.length c6] 25)) (w.heap.size + 1) (.int .i64 0) (.int .i64 0) (.string ⟨#[]⟩) (.slice none 0 0) (.slice none 0 0) ∧ Below w.heap.size w (w0.alloc (.cells #[.int .i64 y9.kind, .int .i64 y9.n, .string ⟨y9.s.toArray⟩, .slice a5 y9.keys.length c5, .slice a6 y9.l.length c6] 25))) := by
      have hbb := bel_trans hb0 (bel_alloc w0 (.cells #[.int .i64 y9.kind, .int .i64 y9.n, .string ⟨y9.s.toArray⟩, .slice a5 y9.keys.length c5, .slice a6 y9.l.length c6] 25))
      exact ⟨box_bel hbb (h2a w _ _), box_bel hbb (h2b w _ _), bel_trans (bel_trans (bel_alloc _ _) (bel_alloc _ _)) hbb⟩
    obtain ⟨m1, m2, m3⟩ := M1.out
    obtain ⟨n0, n1, n2, n3, n4, -⟩ := m1.c
    obtain ⟨x0, x1, x2, x3, x4, y0, y1, y2, y3, y4⟩ := m2.c
    have Z : Hid (_ ∧ _) := hidI (set_out (C := (w0.alloc (.cells #[.int .i64 y9.kind, .int .i64 y9.n, .string ⟨y9.s.toArray⟩, .slice a5 y9.keys.length c5, .slice a6 y9.l.length c6] 25)).heap.size) (g := w.heap.size + 1) ((H.out.bel m3).weak (lowN_low (C := (w0.alloc (.cells #[.int .i64 y9.kind, .int .i64 y9.n, .string ⟨y9.s.toArray⟩, .slice a5 y9.keys.length c5, .slice a6 y9.l.length c6] 25)).heap.size))) m3 (by omega) m2.lt)
    have ZB : Hid _ := hidI (m2.set (.int .i64 t.kind) (.int .i64 t.n) (.string ⟨t.s.toArray⟩) (.slice a1 t.keys.length c1) (.slice a2 t.l.length c2))
    clear hb0 hy9 m1 m2 m3 M1
    go_wp2_with fail
    obtain ⟨z0, z1, z2, z3, z4, -⟩ := ZB.out.c
    refine bodyPost_ret (v := .tuple #[.agg #[.int .i64 t.kind, .int .i64 t.n, .string ⟨t.s.toArray⟩, .slice a1 t.keys.length c1, .slice a2 t.l.length c2], .bool false]) ?_ rfl ?_
    · simp only [set5] at z0 z1 z2 z3 z4
      simp [results, Tryd.results33, go_sem, z0, z1, z2, z3, z4]
    · refine ⟨_, _, rfl, Z.out.1, ?_⟩
      rw [HA.out]
      exact OptIn.none Z.out.2
  | some y =>
    rcases meant_kind hm with ⟨hk, hp, -⟩ | ⟨hk, i, hi, hlt, -⟩
    · have HM := hidI hm
      have HP := hidI hp
      have HA : Hid (removedV t s = some (withoutV t s)) := hidI (by unfold removedV; rw [hm, Option.bind_some, if_pos hk])
      have q1 : (t.kind == 5) = true := by rw [hk]; rfl
      clear hm hp hk
      have H := hidI h.low
      obtain ⟨l1, l2, l3⟩ := h.lens
      obtain ⟨a1, a2, c1, c2, rfl⟩ := h.form
      clear h hn
      go_enter Tryd.func33, Tryd.ntmps33
      go_wp2_with fail
      refine (meant_is _ (fun k => ok k ∧ k < w.heap.size) t _ s (by exact H.out.bel (bel_trans (bel_alloc _ _) (bel_alloc _ _))) hs).mono ?_
      rintro e w0 ⟨x9, b9, rfl, hb0, hb9, y9, hy9, -⟩
      rw [HM.out] at hb9
      simp only [Option.isSome_some] at hb9
      subst hb9
      obtain ⟨a5, a6, c5, c6, rfl⟩ := hy9.form
      have M1 : Hid (BoxIs (w0.alloc (.cells #[.int .i64 y9.kind, .int .i64 y9.n, .string ⟨y9.s.toArray⟩, .slice a5 y9.keys.length c5, .slice a6 y9.l.length c6] 25)) w.heap.size (.int .i64 t.kind) (.int .i64 t.n) (.string ⟨t.s.toArray⟩) (.slice a1 t.keys.length c1) (.slice a2 t.l.length c2) ∧ BoxIs (w0.alloc (.cells #[.int .i64 y9.kind, .int .i64 y9.n, .string ⟨y9.s.toArray⟩, .slice a5 y9.keys.length c5, .slice a6 y9.l.length c6] 25)) (w.heap.size + 1) (.int .i64 0) (.int .i64 0) (.string ⟨#[]⟩) (.slice none 0 0) (.slice none 0 0) ∧ Below w.heap.size w (w0.alloc (.cells #[.int .i64 y9.kind, .int .i64 y9.n, .string ⟨y9.s.toArray⟩, .slice a5 y9.keys.length c5, .slice a6 y9.l.length c6] 25))) := by
        have hbb := bel_trans hb0 (bel_alloc w0 (.cells #[.int .i64 y9.kind, .int .i64 y9.n, .string ⟨y9.s.toArray⟩, .slice a5 y9.keys.length c5, .slice a6 y9.l.length c6] 25))
        exact ⟨box_bel hbb (h2a w _ _), box_bel hbb (h2b w _ _), bel_trans (bel_trans (bel_alloc _ _) (bel_alloc _ _)) hbb⟩
      obtain ⟨m1, m2, m3⟩ := M1.out
      obtain ⟨n0, n1, n2, n3, n4, -⟩ := m1.c
      clear hb0 hy9 m1 m2 m3
      go_wp2_with fail
      refine (without_is _ (fun k => ok k ∧ k < w.heap.size) t _ s (by exact H.out.bel M1.out.2.2) (by omega)).mono ?_
      rintro e w1 ⟨r, rfl, hr, hb1⟩
      obtain ⟨W, hW⟩ : ∃ W, withoutV t s = W := ⟨_, rfl⟩
      rw [hW] at hr
      have HW := hidI hW
      clear hW
      obtain ⟨d1, d2, e1, e2, rfl⟩ := hr.form
      have hbx := box_bel hb1 M1.out.2.1
      obtain ⟨x0, x1, x2, x3, x4, y0, y1, y2, y3, y4⟩ := hbx.c
      have Z : Hid (_ ∧ _) := hidI (set_out (g := w.heap.size + 1) hr (bel_trans M1.out.2.2 hb1) (by omega) M1.out.2.1.lt)
      have ZB : Hid _ := hidI (hbx.set (.int .i64 W.kind) (.int .i64 W.n) (.string ⟨W.s.toArray⟩) (.slice d1 W.keys.length e1) (.slice d2 W.l.length e2))
      clear hr hb1 hbx n0 n1 n2 n3 n4
      go_wp2_with fail
      obtain ⟨z0, z1, z2, z3, z4, -⟩ := ZB.out.c
      refine bodyPost_ret (v := .tuple #[.agg #[.int .i64 W.kind, .int .i64 W.n, .string ⟨W.s.toArray⟩, .slice d1 W.keys.length e1, .slice d2 W.l.length e2], .bool true]) ?_ rfl ?_
      · simp only [set5] at z0 z1 z2 z3 z4
        simp [results, Tryd.results33, go_sem, z0, z1, z2, z3, z4]
      · refine ⟨_, _, rfl, Z.out.1, ?_⟩
        rw [HA.out, HW.out]
        exact OptIn.some Z.out.2
    · refine (removed_list w ok t v s i h hk hi hlt (by omega) hs).mono ?_
      rintro e w' ⟨r, rfl, hb, hr⟩
      refine ⟨r, true, rfl, hb, ?_⟩
      have : removedV t s = some { t with l := t.l.take i ++ t.l.drop (i + 1) } := by unfold removedV; rw [hm, Option.bind_some, if_neg (by omega), hi]; rfl
      rw [this]
      exact OptIn.some hr

end Go.Proofs.YtaifciobaapehaaDoor
