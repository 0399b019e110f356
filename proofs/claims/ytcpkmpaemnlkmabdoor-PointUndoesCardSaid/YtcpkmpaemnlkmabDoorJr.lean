/- What is added and taken away leaves all as it was: PointUndoes. -/
import Derived.Test.YtcpkmpaemnlkmabDoorXo
set_option linter.unusedSimpArgs false
set_option linter.unusedVariables false
namespace Go.Proofs.YtcpkmpaemnlkmabDoor
open Go.RowKit

set_option maxRecDepth 100000 in
set_option maxHeartbeats 40000000 in
theorem pointUndoes_walk (w : World) (ok1 : Nat → Prop) (d1 : Nat) (t : V) (v : Value) (h1 : VIs w ok1 d1 t v) (ok2 : Nat → Prop) (d2 : Nat) (x : V) (xv : Value) (h2 : VIs w ok2 d2 x xv) (p : List UInt8) (hp : p.length ≤ 140737488351232) (hM : GlobM w) :
    Calls Tryd.prog 8 #[v, xv, str p] w fun e w' => e = .returned (.bool true) ∧ Below w.heap.size w w' := by
  have h : In w (fun _ => True) t v := h1.is.weak fun _ _ => trivial
  have hx : In w (fun _ => True) x xv := h2.is.weak fun _ _ => trivial
  have H := hidI h
  have HX := hidI hx
  have HMM := hidI hM
  obtain ⟨l1, l2, l3⟩ := h.lens
  obtain ⟨a1, a2, c1, c2, rfl⟩ := h.form
  obtain ⟨a7, a8, c7, c8, rfl⟩ := hx.form
  clear h hx hM h1 h2
  have B2 : Hid (∀ o1 o2, Below w.heap.size w ((w.alloc o1).alloc o2)) := fun o1 o2 => bel_trans (bel_alloc _ _) (bel_alloc _ _)
  go_enter Tryd.func8, Tryd.ntmps8
  go_wp2_with fail
  refine (get_is _ (fun _ => True) t _ p (by exact H.out.bel (B2.out _ _)) hp (by exact HMM.out.bel (B2.out _ _))).mono ?_
  rintro e wg ⟨r, rfl, hb1, hr⟩
  obtain ⟨y, hy⟩ : ∃ y, getR (splitP p) t = y := ⟨_, rfl⟩
  rw [hy] at hr ⊢
  obtain ⟨y, ye⟩ := y
  simp only at hr ⊢
  obtain ⟨g1, g2, h1, h2, rfl⟩ := hr.form
  have HY := hidI hy
  have hbb := bel_trans hb1 (bel_alloc wg (.cells #[.int .i64 y.kind, .int .i64 y.n, .string ⟨y.s.toArray⟩, .slice g1 y.keys.length h1, .slice g2 y.l.length h2] 25))
  have S1 : Hid (BoxIs (wg.alloc (.cells #[.int .i64 y.kind, .int .i64 y.n, .string ⟨y.s.toArray⟩, .slice g1 y.keys.length h1, .slice g2 y.l.length h2] 25)) w.heap.size (.int .i64 t.kind) (.int .i64 t.n) (.string ⟨t.s.toArray⟩) (.slice a1 t.keys.length c1) (.slice a2 t.l.length c2) ∧ BoxIs (wg.alloc (.cells #[.int .i64 y.kind, .int .i64 y.n, .string ⟨y.s.toArray⟩, .slice g1 y.keys.length h1, .slice g2 y.l.length h2] 25)) (w.heap.size + 1) (.int .i64 x.kind) (.int .i64 x.n) (.string ⟨x.s.toArray⟩) (.slice a7 x.keys.length c7) (.slice a8 x.l.length c8) ∧ Below w.heap.size w (wg.alloc (.cells #[.int .i64 y.kind, .int .i64 y.n, .string ⟨y.s.toArray⟩, .slice g1 y.keys.length h1, .slice g2 y.l.length h2] 25))) := ⟨box_bel hbb (h2a w _ _), box_bel hbb (h2b w _ _), bel_trans (B2.out _ _) hbb⟩
  clear hy hr hb1 hbb
  obtain ⟨p0, p1, p2, p3, p4, -⟩ := S1.out.1.c
  obtain ⟨q0, q1, q2, q3, q4, -⟩ := S1.out.2.1.c
  go_wp2_with fail
  refine (add_is _ (fun _ => True) t x _ _ p (by exact H.out.bel S1.out.2.2) (by exact HX.out.bel S1.out.2.2) hp (by exact HMM.out.bel S1.out.2.2)).mono ?_
  rintro e wu ⟨r, rfl, hb5, hr⟩
  obtain ⟨u, hu⟩ : ∃ u, layR addedV p (splitP p) t x = u := ⟨_, rfl⟩
  rw [hu] at hr ⊢
  obtain ⟨u, ug⟩ := u
  simp only at hr ⊢
  obtain ⟨d1, d2, e1, e2, rfl⟩ := hr.form
  have HU := hidI hu
  have hbb := bel_trans hb5 (bel_alloc wu (.cells #[.int .i64 u.kind, .int .i64 u.n, .string ⟨u.s.toArray⟩, .slice d1 u.keys.length e1, .slice d2 u.l.length e2] 25))
  have S2 : Hid (BoxIs (wu.alloc (.cells #[.int .i64 u.kind, .int .i64 u.n, .string ⟨u.s.toArray⟩, .slice d1 u.keys.length e1, .slice d2 u.l.length e2] 25)) w.heap.size (.int .i64 t.kind) (.int .i64 t.n) (.string ⟨t.s.toArray⟩) (.slice a1 t.keys.length c1) (.slice a2 t.l.length c2) ∧ BoxIs (wu.alloc (.cells #[.int .i64 u.kind, .int .i64 u.n, .string ⟨u.s.toArray⟩, .slice d1 u.keys.length e1, .slice d2 u.l.length e2] 25)) (w.heap.size + 1) (.int .i64 x.kind) (.int .i64 x.n) (.string ⟨x.s.toArray⟩) (.slice a7 x.keys.length c7) (.slice a8 x.l.length c8) ∧ Below w.heap.size w (wu.alloc (.cells #[.int .i64 u.kind, .int .i64 u.n, .string ⟨u.s.toArray⟩, .slice d1 u.keys.length e1, .slice d2 u.l.length e2] 25))) := ⟨box_bel hbb S1.out.1, box_bel hbb S1.out.2.1, bel_trans S1.out.2.2 hbb⟩
  have U2 : Hid (BoxIs (wu.alloc (.cells #[.int .i64 u.kind, .int .i64 u.n, .string ⟨u.s.toArray⟩, .slice d1 u.keys.length e1, .slice d2 u.l.length e2] 25)) wu.heap.size (.int .i64 u.kind) (.int .i64 u.n) (.string ⟨u.s.toArray⟩) (.slice d1 u.keys.length e1) (.slice d2 u.l.length e2) ∧ In (wu.alloc (.cells #[.int .i64 u.kind, .int .i64 u.n, .string ⟨u.s.toArray⟩, .slice d1 u.keys.length e1, .slice d2 u.l.length e2] 25)) (fun _ => True) u (.agg #[.int .i64 u.kind, .int .i64 u.n, .string ⟨u.s.toArray⟩, .slice d1 u.keys.length e1, .slice d2 u.l.length e2])) := ⟨heap_alloc_new wu _, (hr.bel (bel_alloc _ _)).weak fun _ _ => trivial⟩
  clear hu hr hb5 hbb p0 p1 p2 p3 p4 q0 q1 q2 q3 q4 S1
  go_wp2_with fail
  refine (split_all _ p hp (by exact HMM.out.bel S2.out.2.2)).mono ?_
  rintro e wn ⟨ns, ee, na, nc, rfl, hsp, hns, hb7⟩
  have SP := hidI hsp
  have nlen := hns.1
  unfold maxLen at nlen
  have S3 : Hid (BoxIs wn w.heap.size (.int .i64 t.kind) (.int .i64 t.n) (.string ⟨t.s.toArray⟩) (.slice a1 t.keys.length c1) (.slice a2 t.l.length c2) ∧ BoxIs wn (w.heap.size + 1) (.int .i64 x.kind) (.int .i64 x.n) (.string ⟨x.s.toArray⟩) (.slice a7 x.keys.length c7) (.slice a8 x.l.length c8) ∧ Below w.heap.size w wn) := ⟨box_bel hb7 S2.out.1, box_bel hb7 S2.out.2.1, bel_trans S2.out.2.2 hb7⟩
  have U3 : Hid (BoxIs wn wu.heap.size (.int .i64 u.kind) (.int .i64 u.n) (.string ⟨u.s.toArray⟩) (.slice d1 u.keys.length e1) (.slice d2 u.l.length e2) ∧ In wn (fun _ => True) u (.agg #[.int .i64 u.kind, .int .i64 u.n, .string ⟨u.s.toArray⟩, .slice d1 u.keys.length e1, .slice d2 u.l.length e2])) := ⟨box_bel hb7 U2.out.1, U2.out.2.bel hb7⟩
  have NL : ns = [] ∨ ∃ (m : Nat) (s : List UInt8) (nb no : Nat), ns.length = m + 1 ∧ ns.getLast? = some s ∧ na = some ⟨nb, no, none⟩ ∧ ns.length ≤ nc ∧ nc ≤ 9223372036854775807 ∧ wn.cell? ⟨nb, no + m, none⟩ = some (.string ⟨s.toArray⟩) := by
    rcases hns.2 with ⟨e, _⟩ | ⟨nb, no, c', e, h1, h2, hcs⟩
    · exact .inl e
    · by_cases h0 : ns = []
      · exact .inl h0
      · have hpos : 0 < ns.length := List.length_pos_iff.2 h0
        simp only [Value.slice.injEq] at e
        obtain ⟨rfl, -, rfl⟩ := e
        refine .inr ⟨ns.length - 1, ns[ns.length - 1], nb, no, by omega, ?_, rfl, h1, h2, ?_⟩
        · rw [List.getLast?_eq_getElem?, List.getElem?_eq_getElem (by omega)]
        · exact (hcs (ns.length - 1) _ (List.getElem?_eq_getElem (by omega))).2.2
  clear hsp hns hb7 S2 U2
  by_cases hug : ug = 0
  · subst hug
    rcases NL with h0 | ⟨m, s, nb, no, hm, hlast, rfl, hc1, hc2, hcell⟩
    · subst h0
      have e9 : ((0 : Int) == 0) = true := rfl
      simp only [List.length_nil]
      go_wp2_with fail
      refine (points_at _ (by exact HMM.out.bel S3.out.2.2)).mono ?_
      rintro e wp ⟨rfl, hb7⟩
      have B7 := hidI (bel_trans S3.out.2.2 hb7)
      clear hb7
      go_wp2_with fail
      go_ret
      exact ⟨rfl, B7.out⟩
    · have e9 : ((ns.length : Int) == 0) = false := by rw [beq_eq_false_iff_ne]; omega
      have hw : IntKind.i64.wrap ((ns.length : Int) - 1) = (m : Int) := by rw [IntKind.wrap_i64]; omega
      have e10 : (m : Int) < (ns.length : Int) := by omega
      by_cases hs : s = [45]
      · have q5 : (s == [45]) = true := by rw [hs]; rfl
        clear hs hlast
        go_wp2_with fail
        refine (points_at _ (by exact HMM.out.bel S3.out.2.2)).mono ?_
        rintro e wp ⟨rfl, hb7⟩
        have B7 := hidI (bel_trans S3.out.2.2 hb7)
        clear hb7
        go_wp2_with fail
        go_ret
        exact ⟨rfl, B7.out⟩
      · have q5 : (s == [45]) = false := by rw [beq_eq_false_iff_ne]; exact hs
        have un : Hid ((changeR removedV (splitP p) u).2 = 0 ∧ (ye = 3 → (changeR removedV (splitP p) u).1 = t)) := by
          have := add_remove (p := p) (sp := splitP p) (fun e => by rw [e]; rfl) HU.out (by rw [SP.out]; intro e; simp only at e; rw [e] at hm; simp at hm) (by rw [SP.out]; simp only; rw [hlast]; intro e; exact hs (by simpa using e))
          rw [HY.out] at this
          exact this
        clear hs hlast
        obtain ⟨r0, r1, r2, r3, r4, -⟩ := U3.out.1.c
        go_wp2_with fail
        refine (points_at _ (by exact HMM.out.bel S3.out.2.2)).mono ?_
        rintro e wp ⟨rfl, hb6⟩
        have S4 : Hid (BoxIs wp w.heap.size (.int .i64 t.kind) (.int .i64 t.n) (.string ⟨t.s.toArray⟩) (.slice a1 t.keys.length c1) (.slice a2 t.l.length c2) ∧ BoxIs wp (w.heap.size + 1) (.int .i64 x.kind) (.int .i64 x.n) (.string ⟨x.s.toArray⟩) (.slice a7 x.keys.length c7) (.slice a8 x.l.length c8) ∧ Below w.heap.size w wp) := ⟨box_bel hb6 S3.out.1, box_bel hb6 S3.out.2.1, bel_trans S3.out.2.2 hb6⟩
        have U4 : Hid (BoxIs wp wu.heap.size (.int .i64 u.kind) (.int .i64 u.n) (.string ⟨u.s.toArray⟩) (.slice d1 u.keys.length e1) (.slice d2 u.l.length e2) ∧ In wp (fun _ => True) u (.agg #[.int .i64 u.kind, .int .i64 u.n, .string ⟨u.s.toArray⟩, .slice d1 u.keys.length e1, .slice d2 u.l.length e2])) := ⟨box_bel hb6 U3.out.1, U3.out.2.bel hb6⟩
        clear hb6 r0 r1 r2 r3 r4 S3 U3 hcell
        obtain ⟨r0, r1, r2, r3, r4, -⟩ := U4.out.1.c
        go_wp2_with fail
        refine (remove_is _ (fun _ => True) u _ p (by exact U4.out.2) hp (by exact HMM.out.bel S4.out.2.2)).mono ?_
        rintro e wr ⟨r, rfl, hb8, hr⟩
        obtain ⟨z, hz⟩ : ∃ z, changeR removedV (splitP p) u = z := ⟨_, rfl⟩
        rw [hz] at hr un ⊢
        obtain ⟨z, zg⟩ := z
        simp only at hr ⊢
        obtain ⟨un1, un2⟩ := un.out
        simp only at un1 un2
        subst un1
        obtain ⟨f1, f2, k1, k2, rfl⟩ := hr.form
        have UN := hidI un2
        have hbb := bel_trans hb8 (bel_alloc wr (.cells #[.int .i64 z.kind, .int .i64 z.n, .string ⟨z.s.toArray⟩, .slice f1 z.keys.length k1, .slice f2 z.l.length k2] 25))
        have S5 : Hid (BoxIs (wr.alloc (.cells #[.int .i64 z.kind, .int .i64 z.n, .string ⟨z.s.toArray⟩, .slice f1 z.keys.length k1, .slice f2 z.l.length k2] 25)) w.heap.size (.int .i64 t.kind) (.int .i64 t.n) (.string ⟨t.s.toArray⟩) (.slice a1 t.keys.length c1) (.slice a2 t.l.length c2) ∧ BoxIs (wr.alloc (.cells #[.int .i64 z.kind, .int .i64 z.n, .string ⟨z.s.toArray⟩, .slice f1 z.keys.length k1, .slice f2 z.l.length k2] 25)) (w.heap.size + 1) (.int .i64 x.kind) (.int .i64 x.n) (.string ⟨x.s.toArray⟩) (.slice a7 x.keys.length c7) (.slice a8 x.l.length c8) ∧ Below w.heap.size w (wr.alloc (.cells #[.int .i64 z.kind, .int .i64 z.n, .string ⟨z.s.toArray⟩, .slice f1 z.keys.length k1, .slice f2 z.l.length k2] 25))) := ⟨box_bel hbb S4.out.1, box_bel hbb S4.out.2.1, bel_trans S4.out.2.2 hbb⟩
        have W5 : Hid (BoxIs (wr.alloc (.cells #[.int .i64 z.kind, .int .i64 z.n, .string ⟨z.s.toArray⟩, .slice f1 z.keys.length k1, .slice f2 z.l.length k2] 25)) wr.heap.size (.int .i64 z.kind) (.int .i64 z.n) (.string ⟨z.s.toArray⟩) (.slice f1 z.keys.length k1) (.slice f2 z.l.length k2) ∧ In (wr.alloc (.cells #[.int .i64 z.kind, .int .i64 z.n, .string ⟨z.s.toArray⟩, .slice f1 z.keys.length k1, .slice f2 z.l.length k2] 25)) (fun _ => True) z (.agg #[.int .i64 z.kind, .int .i64 z.n, .string ⟨z.s.toArray⟩, .slice f1 z.keys.length k1, .slice f2 z.l.length k2])) := ⟨heap_alloc_new wr _, (hr.bel (bel_alloc _ _)).weak fun _ _ => trivial⟩
        clear hz hr hb8 hbb r0 r1 r2 r3 r4 S4 U4 un un2
        by_cases h3 : ye = 3
        · have q6 : (ye == 3) = true := by rw [h3]; rfl
          have hzt := UN.out h3
          subst hzt
          clear h3
          obtain ⟨p0, p1, p2, p3, p4, -⟩ := S5.out.1.c
          obtain ⟨o0, o1, o2, o3, o4, -⟩ := W5.out.1.c
          go_wp2_with fail
          refine (same_is _ (fun _ => True) (fun _ => True) z _ _ (by exact W5.out.2) (by exact H.out.bel S5.out.2.2)).mono ?_
          rintro e ws ⟨rfl, hb9⟩
          have B9 := hidI (bel_trans S5.out.2.2 hb9)
          clear hb9 p0 p1 p2 p3 p4 o0 o1 o2 o3 o4 S5 W5
          go_wp2_with fail
          go_ret
          exact ⟨rfl, B9.out⟩
        · have q6 : (ye == 3) = false := by rw [beq_eq_false_iff_ne]; exact h3
          have B9 := hidI S5.out.2.2
          clear h3
          go_wp2_with fail
          go_ret
          exact ⟨rfl, B9.out⟩
  · have e1 : (ug != 0) = true := by rw [bne_iff_ne]; exact hug
    have e2 : (ug == 0) = false := by rw [beq_eq_false_iff_ne]; exact hug
    clear hug NL
    go_wp2_with fail
    refine (points_at _ (by exact HMM.out.bel S3.out.2.2)).mono ?_
    rintro e wp ⟨rfl, hb7⟩
    have B7 := hidI (bel_trans S3.out.2.2 hb7)
    clear hb7
    go_wp2_with fail
    go_ret
    exact ⟨rfl, B7.out⟩
end Go.Proofs.YtcpkmpaemnlkmabDoor
