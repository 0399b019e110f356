/- What is added or put is got: PointAdds. -/
import Derived.Test.YtcpkmpaemnlkmabDoorXo
set_option linter.unusedSimpArgs false
set_option linter.unusedVariables false
namespace Go.Proofs.YtcpkmpaemnlkmabDoor
open Go.RowKit

set_option maxRecDepth 100000 in
set_option maxHeartbeats 40000000 in
theorem pointAdds_walk (w : World) (ok1 : Nat → Prop) (d1 : Nat) (t : V) (v : Value) (h1 : VIs w ok1 d1 t v) (ok2 : Nat → Prop) (d2 : Nat) (x : V) (xv : Value) (h2 : VIs w ok2 d2 x xv) (p : List UInt8) (hp : p.length ≤ 140737488351232) (hM : GlobM w) :
    Calls Tryd.prog 7 #[v, xv, str p] w fun e w' => e = .returned (.bool true) ∧ Below w.heap.size w w' := by
  have h : In w (fun _ => True) t v := h1.is.weak fun _ _ => trivial
  have hx : In w (fun _ => True) x xv := h2.is.weak fun _ _ => trivial
  have H := hidI h
  have HX := hidI hx
  have HMM := hidI hM
  obtain ⟨l1, l2, l3⟩ := h.lens
  obtain ⟨a1, a2, c1, c2, rfl⟩ := h.form
  obtain ⟨a7, a8, c7, c8, rfl⟩ := hx.form
  clear h hx hM h1 h2
  have B2 : Hid (∀ o1 o2, Below w.heap.size w ((w.alloc o1).alloc o2)) := fun o1 o2 => bel_trans (bel_alloc _ _) (bel_alloc _ _)
  go_enter Tryd.func7, Tryd.ntmps7
  go_wp2_with fail
  refine (put_is _ (fun _ => True) t x _ _ p (by exact H.out.bel (B2.out _ _)) (by exact HX.out.bel (B2.out _ _)) hp (by exact HMM.out.bel (B2.out _ _))).mono ?_
  rintro e wz ⟨r, rfl, hb1, hr⟩
  obtain ⟨z, hz⟩ : ∃ z, layR replacedV p (splitP p) t x = z := ⟨_, rfl⟩
  rw [hz] at hr ⊢
  obtain ⟨z, zg⟩ := z
  simp only at hr ⊢
  obtain ⟨f1, f2, k1, k2, rfl⟩ := hr.form
  have HZ := hidI hz
  have hbb := bel_trans hb1 (bel_alloc wz (.cells #[.int .i64 z.kind, .int .i64 z.n, .string ⟨z.s.toArray⟩, .slice f1 z.keys.length k1, .slice f2 z.l.length k2] 25))
  have S1 : Hid (BoxIs (wz.alloc (.cells #[.int .i64 z.kind, .int .i64 z.n, .string ⟨z.s.toArray⟩, .slice f1 z.keys.length k1, .slice f2 z.l.length k2] 25)) w.heap.size (.int .i64 t.kind) (.int .i64 t.n) (.string ⟨t.s.toArray⟩) (.slice a1 t.keys.length c1) (.slice a2 t.l.length c2) ∧ BoxIs (wz.alloc (.cells #[.int .i64 z.kind, .int .i64 z.n, .string ⟨z.s.toArray⟩, .slice f1 z.keys.length k1, .slice f2 z.l.length k2] 25)) (w.heap.size + 1) (.int .i64 x.kind) (.int .i64 x.n) (.string ⟨x.s.toArray⟩) (.slice a7 x.keys.length c7) (.slice a8 x.l.length c8) ∧ Below w.heap.size w (wz.alloc (.cells #[.int .i64 z.kind, .int .i64 z.n, .string ⟨z.s.toArray⟩, .slice f1 z.keys.length k1, .slice f2 z.l.length k2] 25))) := ⟨box_bel hbb (h2a w _ _), box_bel hbb (h2b w _ _), bel_trans (B2.out _ _) hbb⟩
  have P1 : Hid (BoxIs (wz.alloc (.cells #[.int .i64 z.kind, .int .i64 z.n, .string ⟨z.s.toArray⟩, .slice f1 z.keys.length k1, .slice f2 z.l.length k2] 25)) wz.heap.size (.int .i64 z.kind) (.int .i64 z.n) (.string ⟨z.s.toArray⟩) (.slice f1 z.keys.length k1) (.slice f2 z.l.length k2) ∧ In (wz.alloc (.cells #[.int .i64 z.kind, .int .i64 z.n, .string ⟨z.s.toArray⟩, .slice f1 z.keys.length k1, .slice f2 z.l.length k2] 25)) (fun _ => True) z (.agg #[.int .i64 z.kind, .int .i64 z.n, .string ⟨z.s.toArray⟩, .slice f1 z.keys.length k1, .slice f2 z.l.length k2])) := ⟨heap_alloc_new wz _, (hr.bel (bel_alloc _ _)).weak fun _ _ => trivial⟩
  clear hz hr hb1 hbb
  obtain ⟨r0, r1, r2, r3, r4, -⟩ := P1.out.1.c
  by_cases hzg : zg = 0
  · subst hzg
    go_wp2_with fail
    refine (get_is _ (fun _ => True) z _ p (by exact P1.out.2) hp (by exact HMM.out.bel S1.out.2.2)).mono ?_
    rintro e wg ⟨r, rfl, hb2, hr⟩
    rw [put_get (p := p) (fun e => by rw [e]; rfl) HZ.out] at hr ⊢
    simp only at hr ⊢
    obtain ⟨g1, g2, h1, h2, rfl⟩ := hr.form
    have hbb := bel_trans hb2 (bel_alloc wg (.cells #[.int .i64 x.kind, .int .i64 x.n, .string ⟨x.s.toArray⟩, .slice g1 x.keys.length h1, .slice g2 x.l.length h2] 25))
    have S2 : Hid (BoxIs (wg.alloc (.cells #[.int .i64 x.kind, .int .i64 x.n, .string ⟨x.s.toArray⟩, .slice g1 x.keys.length h1, .slice g2 x.l.length h2] 25)) w.heap.size (.int .i64 t.kind) (.int .i64 t.n) (.string ⟨t.s.toArray⟩) (.slice a1 t.keys.length c1) (.slice a2 t.l.length c2) ∧ BoxIs (wg.alloc (.cells #[.int .i64 x.kind, .int .i64 x.n, .string ⟨x.s.toArray⟩, .slice g1 x.keys.length h1, .slice g2 x.l.length h2] 25)) (w.heap.size + 1) (.int .i64 x.kind) (.int .i64 x.n) (.string ⟨x.s.toArray⟩) (.slice a7 x.keys.length c7) (.slice a8 x.l.length c8) ∧ Below w.heap.size w (wg.alloc (.cells #[.int .i64 x.kind, .int .i64 x.n, .string ⟨x.s.toArray⟩, .slice g1 x.keys.length h1, .slice g2 x.l.length h2] 25))) := ⟨box_bel hbb S1.out.1, box_bel hbb S1.out.2.1, bel_trans S1.out.2.2 hbb⟩
    have G2 : Hid (BoxIs (wg.alloc (.cells #[.int .i64 x.kind, .int .i64 x.n, .string ⟨x.s.toArray⟩, .slice g1 x.keys.length h1, .slice g2 x.l.length h2] 25)) wg.heap.size (.int .i64 x.kind) (.int .i64 x.n) (.string ⟨x.s.toArray⟩) (.slice g1 x.keys.length h1) (.slice g2 x.l.length h2) ∧ In (wg.alloc (.cells #[.int .i64 x.kind, .int .i64 x.n, .string ⟨x.s.toArray⟩, .slice g1 x.keys.length h1, .slice g2 x.l.length h2] 25)) (fun _ => True) x (.agg #[.int .i64 x.kind, .int .i64 x.n, .string ⟨x.s.toArray⟩, .slice g1 x.keys.length h1, .slice g2 x.l.length h2])) := ⟨heap_alloc_new wg _, hr.bel (bel_alloc _ _)⟩
    clear hb2 hr hbb r0 r1 r2 r3 r4 S1 P1
    obtain ⟨q0, q1, q2, q3, q4, -⟩ := S2.out.2.1.c
    obtain ⟨o0, o1, o2, o3, o4, -⟩ := G2.out.1.c
    go_wp2_with fail
    refine (same_is _ (fun _ => True) (fun _ => True) x _ _ (by exact HX.out.bel S2.out.2.2) (by exact G2.out.2)).mono ?_
    rintro e wz ⟨rfl, hb3⟩
    have S : Hid (BoxIs wz w.heap.size (.int .i64 t.kind) (.int .i64 t.n) (.string ⟨t.s.toArray⟩) (.slice a1 t.keys.length c1) (.slice a2 t.l.length c2) ∧ BoxIs wz (w.heap.size + 1) (.int .i64 x.kind) (.int .i64 x.n) (.string ⟨x.s.toArray⟩) (.slice a7 x.keys.length c7) (.slice a8 x.l.length c8) ∧ Below w.heap.size w wz) := ⟨box_bel hb3 S2.out.1, box_bel hb3 S2.out.2.1, bel_trans S2.out.2.2 hb3⟩
    clear hb3 q0 q1 q2 q3 q4 o0 o1 o2 o3 o4 S2 G2
    obtain ⟨p0, p1, p2, p3, p4, -⟩ := S.out.1.c
    obtain ⟨q0, q1, q2, q3, q4, -⟩ := S.out.2.1.c
    go_wp2_with fail
    refine (add_is _ (fun _ => True) t x _ _ p (by exact H.out.bel S.out.2.2) (by exact HX.out.bel S.out.2.2) hp (by exact HMM.out.bel S.out.2.2)).mono ?_
    rintro e wu ⟨r, rfl, hb5, hr⟩
    obtain ⟨u, hu⟩ : ∃ u, layR addedV p (splitP p) t x = u := ⟨_, rfl⟩
    rw [hu] at hr ⊢
    obtain ⟨u, ug⟩ := u
    simp only at hr ⊢
    obtain ⟨d1, d2, e1, e2, rfl⟩ := hr.form
    have HU := hidI hu
    have hbb := bel_trans hb5 (bel_alloc wu (.cells #[.int .i64 u.kind, .int .i64 u.n, .string ⟨u.s.toArray⟩, .slice d1 u.keys.length e1, .slice d2 u.l.length e2] 25))
    have S5 : Hid (BoxIs (wu.alloc (.cells #[.int .i64 u.kind, .int .i64 u.n, .string ⟨u.s.toArray⟩, .slice d1 u.keys.length e1, .slice d2 u.l.length e2] 25)) w.heap.size (.int .i64 t.kind) (.int .i64 t.n) (.string ⟨t.s.toArray⟩) (.slice a1 t.keys.length c1) (.slice a2 t.l.length c2) ∧ BoxIs (wu.alloc (.cells #[.int .i64 u.kind, .int .i64 u.n, .string ⟨u.s.toArray⟩, .slice d1 u.keys.length e1, .slice d2 u.l.length e2] 25)) (w.heap.size + 1) (.int .i64 x.kind) (.int .i64 x.n) (.string ⟨x.s.toArray⟩) (.slice a7 x.keys.length c7) (.slice a8 x.l.length c8) ∧ Below w.heap.size w (wu.alloc (.cells #[.int .i64 u.kind, .int .i64 u.n, .string ⟨u.s.toArray⟩, .slice d1 u.keys.length e1, .slice d2 u.l.length e2] 25))) := ⟨box_bel hbb S.out.1, box_bel hbb S.out.2.1, bel_trans S.out.2.2 hbb⟩
    have U5 : Hid (BoxIs (wu.alloc (.cells #[.int .i64 u.kind, .int .i64 u.n, .string ⟨u.s.toArray⟩, .slice d1 u.keys.length e1, .slice d2 u.l.length e2] 25)) wu.heap.size (.int .i64 u.kind) (.int .i64 u.n) (.string ⟨u.s.toArray⟩) (.slice d1 u.keys.length e1) (.slice d2 u.l.length e2) ∧ In (wu.alloc (.cells #[.int .i64 u.kind, .int .i64 u.n, .string ⟨u.s.toArray⟩, .slice d1 u.keys.length e1, .slice d2 u.l.length e2] 25)) (fun _ => True) u (.agg #[.int .i64 u.kind, .int .i64 u.n, .string ⟨u.s.toArray⟩, .slice d1 u.keys.length e1, .slice d2 u.l.length e2])) := ⟨heap_alloc_new wu _, (hr.bel (bel_alloc _ _)).weak fun _ _ => trivial⟩
    clear hu hr hb5 hbb p0 p1 p2 p3 p4 q0 q1 q2 q3 q4 S
    by_cases hug : ug = 0
    · subst hug
      go_wp2_with fail
      refine (points_at _ (by exact HMM.out.bel S5.out.2.2)).mono ?_
      rintro e wp ⟨rfl, hb6⟩
      have S6 : Hid (BoxIs wp w.heap.size (.int .i64 t.kind) (.int .i64 t.n) (.string ⟨t.s.toArray⟩) (.slice a1 t.keys.length c1) (.slice a2 t.l.length c2) ∧ BoxIs wp (w.heap.size + 1) (.int .i64 x.kind) (.int .i64 x.n) (.string ⟨x.s.toArray⟩) (.slice a7 x.keys.length c7) (.slice a8 x.l.length c8) ∧ Below w.heap.size w wp) := ⟨box_bel hb6 S5.out.1, box_bel hb6 S5.out.2.1, bel_trans S5.out.2.2 hb6⟩
      have U6 : Hid (BoxIs wp wu.heap.size (.int .i64 u.kind) (.int .i64 u.n) (.string ⟨u.s.toArray⟩) (.slice d1 u.keys.length e1) (.slice d2 u.l.length e2) ∧ In wp (fun _ => True) u (.agg #[.int .i64 u.kind, .int .i64 u.n, .string ⟨u.s.toArray⟩, .slice d1 u.keys.length e1, .slice d2 u.l.length e2])) := ⟨box_bel hb6 U5.out.1, U5.out.2.bel hb6⟩
      clear hb6 S5 U5
      go_wp2_with fail
      refine (split_all _ p hp (by exact HMM.out.bel S6.out.2.2)).mono ?_
      rintro e wn ⟨ns, ee, na, nc, rfl, hsp, hns, hb7⟩
      have SP := hidI hsp
      have nlen := hns.1
      unfold maxLen at nlen
      have S7 : Hid (BoxIs wn w.heap.size (.int .i64 t.kind) (.int .i64 t.n) (.string ⟨t.s.toArray⟩) (.slice a1 t.keys.length c1) (.slice a2 t.l.length c2) ∧ BoxIs wn (w.heap.size + 1) (.int .i64 x.kind) (.int .i64 x.n) (.string ⟨x.s.toArray⟩) (.slice a7 x.keys.length c7) (.slice a8 x.l.length c8) ∧ Below w.heap.size w wn) := ⟨box_bel hb7 S6.out.1, box_bel hb7 S6.out.2.1, bel_trans S6.out.2.2 hb7⟩
      have U7 : Hid (BoxIs wn wu.heap.size (.int .i64 u.kind) (.int .i64 u.n) (.string ⟨u.s.toArray⟩) (.slice d1 u.keys.length e1) (.slice d2 u.l.length e2) ∧ In wn (fun _ => True) u (.agg #[.int .i64 u.kind, .int .i64 u.n, .string ⟨u.s.toArray⟩, .slice d1 u.keys.length e1, .slice d2 u.l.length e2])) := ⟨box_bel hb7 U6.out.1, U6.out.2.bel hb7⟩
      have hgood : Hid (goodV u = true) := hidI (lay_ok HU.out).2.2.1
      obtain ⟨r0, r1, r2, r3, r4, -⟩ := U7.out.1.c
      have fin1 : Hid (∀ W : World, W = wn → Calls Tryd.prog 9 #[.agg #[.int .i64 u.kind, .int .i64 u.n, .string ⟨u.s.toArray⟩, .slice d1 u.keys.length e1, .slice d2 u.l.length e2]] W fun e w' => e = .returned (.bool true) ∧ Below w.heap.size w w') := by
        rintro W rfl
        refine (good_is _ _ u _ U7.out.2).mono ?_
        rintro e w' ⟨rfl, hb⟩
        exact ⟨by rw [hgood.out], bel_trans S7.out.2.2 hb⟩
      have NL : ns = [] ∨ ∃ (m : Nat) (s : List UInt8) (nb no : Nat), ns.length = m + 1 ∧ ns.getLast? = some s ∧ na = some ⟨nb, no, none⟩ ∧ ns.length ≤ nc ∧ nc ≤ 9223372036854775807 ∧ wn.cell? ⟨nb, no + m, none⟩ = some (.string ⟨s.toArray⟩) := by
        rcases hns.2 with ⟨e, _⟩ | ⟨nb, no, c', e, h1, h2, hcs⟩
        · exact .inl e
        · by_cases h0 : ns = []
          · exact .inl h0
          · have hpos : 0 < ns.length := List.length_pos_iff.2 h0
            simp only [Value.slice.injEq] at e
            obtain ⟨rfl, -, rfl⟩ := e
            refine .inr ⟨ns.length - 1, ns[ns.length - 1], nb, no, by omega, ?_, rfl, h1, h2, ?_⟩
            · rw [List.getLast?_eq_getElem?, List.getElem?_eq_getElem (by omega)]
            · exact (hcs (ns.length - 1) _ (List.getElem?_eq_getElem (by omega))).2.2
      have got : Hid (ns.getLast? ≠ some [45] → Calls Tryd.prog 22 #[.agg #[.int .i64 u.kind, .int .i64 u.n, .string ⟨u.s.toArray⟩, .slice d1 u.keys.length e1, .slice d2 u.l.length e2], .string ⟨p.toArray⟩] wn fun e w' => ∃ (g1 g2 : Option Addr) (h1 h2 : Nat), e = .returned (.tuple #[.agg #[.int .i64 x.kind, .int .i64 x.n, .string ⟨x.s.toArray⟩, .slice g1 x.keys.length h1, .slice g2 x.l.length h2], .int .i64 0]) ∧ Below wn.heap.size wn w' ∧ In w' (fun _ => True) x (.agg #[.int .i64 x.kind, .int .i64 x.n, .string ⟨x.s.toArray⟩, .slice g1 x.keys.length h1, .slice g2 x.l.length h2])) := by
        intro hl
        refine (get_is _ (fun _ => True) u _ p U7.out.2 hp (HMM.out.bel S7.out.2.2)).mono ?_
        have hg := add_get (p := p) (fun e => by rw [e]; rfl) HU.out (by rw [SP.out]; exact hl)
        rintro e w' ⟨r, rfl, hb, hr⟩
        rw [hg] at hr ⊢
        obtain ⟨g1, g2, h1, h2, rfl⟩ := hr.form
        exact ⟨g1, g2, h1, h2, rfl, hb, hr⟩
      clear hsp hns hb7 S6 U6
      have ending : Hid True := trivial
      rcases NL with h0 | ⟨m, s, nb, no, hm, hlast, rfl, hc1, hc2, hcell⟩
      · subst h0
        have e9 : ¬ ((0 : Int) < 0) := by omega
        simp only [List.length_nil]
        go_wp2_with fail
        refine (got.out (by simp)).mono ?_
        rintro e wg ⟨g1, g2, h1, h2, rfl, hb8, hr⟩
        have hbb := bel_trans hb8 (bel_alloc wg (.cells #[.int .i64 x.kind, .int .i64 x.n, .string ⟨x.s.toArray⟩, .slice g1 x.keys.length h1, .slice g2 x.l.length h2] 25))
        have S8 : Hid (BoxIs (wg.alloc (.cells #[.int .i64 x.kind, .int .i64 x.n, .string ⟨x.s.toArray⟩, .slice g1 x.keys.length h1, .slice g2 x.l.length h2] 25)) w.heap.size (.int .i64 t.kind) (.int .i64 t.n) (.string ⟨t.s.toArray⟩) (.slice a1 t.keys.length c1) (.slice a2 t.l.length c2) ∧ BoxIs (wg.alloc (.cells #[.int .i64 x.kind, .int .i64 x.n, .string ⟨x.s.toArray⟩, .slice g1 x.keys.length h1, .slice g2 x.l.length h2] 25)) (w.heap.size + 1) (.int .i64 x.kind) (.int .i64 x.n) (.string ⟨x.s.toArray⟩) (.slice a7 x.keys.length c7) (.slice a8 x.l.length c8) ∧ Below w.heap.size w (wg.alloc (.cells #[.int .i64 x.kind, .int .i64 x.n, .string ⟨x.s.toArray⟩, .slice g1 x.keys.length h1, .slice g2 x.l.length h2] 25))) := ⟨box_bel hbb S7.out.1, box_bel hbb S7.out.2.1, bel_trans S7.out.2.2 hbb⟩
        have U8 : Hid (BoxIs (wg.alloc (.cells #[.int .i64 x.kind, .int .i64 x.n, .string ⟨x.s.toArray⟩, .slice g1 x.keys.length h1, .slice g2 x.l.length h2] 25)) wu.heap.size (.int .i64 u.kind) (.int .i64 u.n) (.string ⟨u.s.toArray⟩) (.slice d1 u.keys.length e1) (.slice d2 u.l.length e2) ∧ In (wg.alloc (.cells #[.int .i64 x.kind, .int .i64 x.n, .string ⟨x.s.toArray⟩, .slice g1 x.keys.length h1, .slice g2 x.l.length h2] 25)) (fun _ => True) u (.agg #[.int .i64 u.kind, .int .i64 u.n, .string ⟨u.s.toArray⟩, .slice d1 u.keys.length e1, .slice d2 u.l.length e2])) := ⟨box_bel hbb U7.out.1, U7.out.2.bel hbb⟩
        have G8 : Hid (BoxIs (wg.alloc (.cells #[.int .i64 x.kind, .int .i64 x.n, .string ⟨x.s.toArray⟩, .slice g1 x.keys.length h1, .slice g2 x.l.length h2] 25)) wg.heap.size (.int .i64 x.kind) (.int .i64 x.n) (.string ⟨x.s.toArray⟩) (.slice g1 x.keys.length h1) (.slice g2 x.l.length h2) ∧ In (wg.alloc (.cells #[.int .i64 x.kind, .int .i64 x.n, .string ⟨x.s.toArray⟩, .slice g1 x.keys.length h1, .slice g2 x.l.length h2] 25)) (fun _ => True) x (.agg #[.int .i64 x.kind, .int .i64 x.n, .string ⟨x.s.toArray⟩, .slice g1 x.keys.length h1, .slice g2 x.l.length h2])) := ⟨heap_alloc_new wg _, hr.bel (bel_alloc _ _)⟩
        clear hb8 hr hbb r0 r1 r2 r3 r4 S7 U7 got fin1
        obtain ⟨q0, q1, q2, q3, q4, -⟩ := S8.out.2.1.c
        obtain ⟨o0, o1, o2, o3, o4, -⟩ := G8.out.1.c
        go_wp2_with fail
        refine (same_is _ (fun _ => True) (fun _ => True) x _ _ (by exact HX.out.bel S8.out.2.2) (by exact G8.out.2)).mono ?_
        rintro e ws ⟨rfl, hb9⟩
        have U9 : Hid (BoxIs ws wu.heap.size (.int .i64 u.kind) (.int .i64 u.n) (.string ⟨u.s.toArray⟩) (.slice d1 u.keys.length e1) (.slice d2 u.l.length e2) ∧ In ws (fun _ => True) u (.agg #[.int .i64 u.kind, .int .i64 u.n, .string ⟨u.s.toArray⟩, .slice d1 u.keys.length e1, .slice d2 u.l.length e2]) ∧ Below w.heap.size w ws) := ⟨box_bel hb9 U8.out.1, U8.out.2.bel hb9, bel_trans S8.out.2.2 hb9⟩
        clear hb9 q0 q1 q2 q3 q4 o0 o1 o2 o3 o4 S8 U8 G8
        obtain ⟨r0, r1, r2, r3, r4, -⟩ := U9.out.1.c
        go_wp2_with fail
        refine (good_is _ _ u _ (by exact U9.out.2.1)).mono ?_
        rintro e w9 ⟨rfl, hb9⟩
        rw [hgood.out]
        have HB9 := hidI (bel_trans U9.out.2.2 hb9)
        clear hb9
        go_wp2_with fail
        go_ret
        exact ⟨rfl, HB9.out⟩
      · by_cases hs : s = [45]
        · have q5 : (s == [45]) = true := by rw [hs]; rfl
          have e9 : (0 : Int) < (ns.length : Int) := by omega
          have hw : IntKind.i64.wrap ((ns.length : Int) - 1) = (m : Int) := by rw [IntKind.wrap_i64]; omega
          have e10 : (m : Int) < (ns.length : Int) := by omega
          have LS := hidI hlast
          clear hs hlast
          go_wp2_with fail
          refine (fin1.out _ (by rfl)).mono ?_
          rintro e w9 ⟨rfl, hb9⟩
          have HB9 := hidI hb9
          clear hb9
          go_wp2_with fail
          go_ret
          exact ⟨rfl, HB9.out⟩
        · have q5 : (s == [45]) = false := by rw [beq_eq_false_iff_ne]; exact hs
          have e9 : (0 : Int) < (ns.length : Int) := by omega
          have hw : IntKind.i64.wrap ((ns.length : Int) - 1) = (m : Int) := by rw [IntKind.wrap_i64]; omega
          have e10 : (m : Int) < (ns.length : Int) := by omega
          have LS : Hid (ns.getLast? ≠ some [45]) := hidI (by rw [hlast]; intro e; exact hs (by simpa using e))
          clear hs hlast
          go_wp2_with fail
          refine (got.out LS.out).mono ?_
          rintro e wg ⟨g1, g2, h1, h2, rfl, hb8, hr⟩
          have hbb := bel_trans hb8 (bel_alloc wg (.cells #[.int .i64 x.kind, .int .i64 x.n, .string ⟨x.s.toArray⟩, .slice g1 x.keys.length h1, .slice g2 x.l.length h2] 25))
          have S8 : Hid (BoxIs (wg.alloc (.cells #[.int .i64 x.kind, .int .i64 x.n, .string ⟨x.s.toArray⟩, .slice g1 x.keys.length h1, .slice g2 x.l.length h2] 25)) w.heap.size (.int .i64 t.kind) (.int .i64 t.n) (.string ⟨t.s.toArray⟩) (.slice a1 t.keys.length c1) (.slice a2 t.l.length c2) ∧ BoxIs (wg.alloc (.cells #[.int .i64 x.kind, .int .i64 x.n, .string ⟨x.s.toArray⟩, .slice g1 x.keys.length h1, .slice g2 x.l.length h2] 25)) (w.heap.size + 1) (.int .i64 x.kind) (.int .i64 x.n) (.string ⟨x.s.toArray⟩) (.slice a7 x.keys.length c7) (.slice a8 x.l.length c8) ∧ Below w.heap.size w (wg.alloc (.cells #[.int .i64 x.kind, .int .i64 x.n, .string ⟨x.s.toArray⟩, .slice g1 x.keys.length h1, .slice g2 x.l.length h2] 25))) := ⟨box_bel hbb S7.out.1, box_bel hbb S7.out.2.1, bel_trans S7.out.2.2 hbb⟩
          have U8 : Hid (BoxIs (wg.alloc (.cells #[.int .i64 x.kind, .int .i64 x.n, .string ⟨x.s.toArray⟩, .slice g1 x.keys.length h1, .slice g2 x.l.length h2] 25)) wu.heap.size (.int .i64 u.kind) (.int .i64 u.n) (.string ⟨u.s.toArray⟩) (.slice d1 u.keys.length e1) (.slice d2 u.l.length e2) ∧ In (wg.alloc (.cells #[.int .i64 x.kind, .int .i64 x.n, .string ⟨x.s.toArray⟩, .slice g1 x.keys.length h1, .slice g2 x.l.length h2] 25)) (fun _ => True) u (.agg #[.int .i64 u.kind, .int .i64 u.n, .string ⟨u.s.toArray⟩, .slice d1 u.keys.length e1, .slice d2 u.l.length e2])) := ⟨box_bel hbb U7.out.1, U7.out.2.bel hbb⟩
          have G8 : Hid (BoxIs (wg.alloc (.cells #[.int .i64 x.kind, .int .i64 x.n, .string ⟨x.s.toArray⟩, .slice g1 x.keys.length h1, .slice g2 x.l.length h2] 25)) wg.heap.size (.int .i64 x.kind) (.int .i64 x.n) (.string ⟨x.s.toArray⟩) (.slice g1 x.keys.length h1) (.slice g2 x.l.length h2) ∧ In (wg.alloc (.cells #[.int .i64 x.kind, .int .i64 x.n, .string ⟨x.s.toArray⟩, .slice g1 x.keys.length h1, .slice g2 x.l.length h2] 25)) (fun _ => True) x (.agg #[.int .i64 x.kind, .int .i64 x.n, .string ⟨x.s.toArray⟩, .slice g1 x.keys.length h1, .slice g2 x.l.length h2])) := ⟨heap_alloc_new wg _, hr.bel (bel_alloc _ _)⟩
          clear hb8 hr hbb r0 r1 r2 r3 r4 S7 U7 got fin1
          obtain ⟨q0, q1, q2, q3, q4, -⟩ := S8.out.2.1.c
          obtain ⟨o0, o1, o2, o3, o4, -⟩ := G8.out.1.c
          go_wp2_with fail
          refine (same_is _ (fun _ => True) (fun _ => True) x _ _ (by exact HX.out.bel S8.out.2.2) (by exact G8.out.2)).mono ?_
          rintro e ws ⟨rfl, hb9⟩
          have U9 : Hid (BoxIs ws wu.heap.size (.int .i64 u.kind) (.int .i64 u.n) (.string ⟨u.s.toArray⟩) (.slice d1 u.keys.length e1) (.slice d2 u.l.length e2) ∧ In ws (fun _ => True) u (.agg #[.int .i64 u.kind, .int .i64 u.n, .string ⟨u.s.toArray⟩, .slice d1 u.keys.length e1, .slice d2 u.l.length e2]) ∧ Below w.heap.size w ws) := ⟨box_bel hb9 U8.out.1, U8.out.2.bel hb9, bel_trans S8.out.2.2 hb9⟩
          clear hb9 q0 q1 q2 q3 q4 o0 o1 o2 o3 o4 S8 U8 G8
          obtain ⟨r0, r1, r2, r3, r4, -⟩ := U9.out.1.c
          go_wp2_with fail
          refine (good_is _ _ u _ (by exact U9.out.2.1)).mono ?_
          rintro e w9 ⟨rfl, hb9⟩
          rw [hgood.out]
          have HB9 := hidI (bel_trans U9.out.2.2 hb9)
          clear hb9
          go_wp2_with fail
          go_ret
          exact ⟨rfl, HB9.out⟩
    · have e1 : (ug != 0) = true := by rw [bne_iff_ne]; exact hug
      have e2 : (ug == 0) = false := by rw [beq_eq_false_iff_ne]; exact hug
      have hut : u = t := by have := lay_err (how := addedV) (p := p) (sp := splitP p) (v := t) (x := x) (by rw [HU.out]; exact hug); rw [HU.out] at this; exact this
      subst hut
      clear hug
      obtain ⟨p0, p1, p2, p3, p4, -⟩ := S5.out.1.c
      obtain ⟨r0, r1, r2, r3, r4, -⟩ := U5.out.1.c
      go_wp2_with fail
      refine (same_is _ (fun _ => True) (fun _ => True) u _ _ (by exact U5.out.2) (by exact H.out.bel S5.out.2.2)).mono ?_
      rintro e ws ⟨rfl, hb6⟩
      have B6 := hidI (bel_trans S5.out.2.2 hb6)
      clear hb6 p0 p1 p2 p3 p4 r0 r1 r2 r3 r4
      go_wp2_with fail
      refine (points_at _ (by exact HMM.out.bel B6.out)).mono ?_
      rintro e wp ⟨rfl, hb7⟩
      have B7 := hidI (bel_trans B6.out hb7)
      clear hb7
      go_wp2_with fail
      go_ret
      exact ⟨rfl, B7.out⟩
  · have e1 : (zg != 0) = true := by rw [bne_iff_ne]; exact hzg
    have e2 : (zg == 0) = false := by rw [beq_eq_false_iff_ne]; exact hzg
    have hzt : z = t := by have := lay_err (how := replacedV) (p := p) (sp := splitP p) (v := t) (x := x) (by rw [HZ.out]; exact hzg); rw [HZ.out] at this; exact this
    subst hzt
    clear hzg
    obtain ⟨p0, p1, p2, p3, p4, -⟩ := S1.out.1.c
    go_wp2_with fail
    refine (same_is _ (fun _ => True) (fun _ => True) z _ _ (by exact P1.out.2) (by exact H.out.bel S1.out.2.2)).mono ?_
    rintro e wy ⟨rfl, hb3⟩
    have S : Hid (BoxIs wy w.heap.size (.int .i64 z.kind) (.int .i64 z.n) (.string ⟨z.s.toArray⟩) (.slice a1 z.keys.length c1) (.slice a2 z.l.length c2) ∧ BoxIs wy (w.heap.size + 1) (.int .i64 x.kind) (.int .i64 x.n) (.string ⟨x.s.toArray⟩) (.slice a7 x.keys.length c7) (.slice a8 x.l.length c8) ∧ Below w.heap.size w wy) := ⟨box_bel hb3 S1.out.1, box_bel hb3 S1.out.2.1, bel_trans S1.out.2.2 hb3⟩
    clear hb3 p0 p1 p2 p3 p4 r0 r1 r2 r3 r4 S1 P1
    obtain ⟨t, ht⟩ : ∃ t, t = z := ⟨_, rfl⟩
    subst ht
    obtain ⟨p0, p1, p2, p3, p4, -⟩ := S.out.1.c
    obtain ⟨q0, q1, q2, q3, q4, -⟩ := S.out.2.1.c
    go_wp2_with fail
    refine (add_is _ (fun _ => True) t x _ _ p (by exact H.out.bel S.out.2.2) (by exact HX.out.bel S.out.2.2) hp (by exact HMM.out.bel S.out.2.2)).mono ?_
    rintro e wu ⟨r, rfl, hb5, hr⟩
    obtain ⟨u, hu⟩ : ∃ u, layR addedV p (splitP p) t x = u := ⟨_, rfl⟩
    rw [hu] at hr ⊢
    obtain ⟨u, ug⟩ := u
    simp only at hr ⊢
    obtain ⟨d1, d2, e1, e2, rfl⟩ := hr.form
    have HU := hidI hu
    have hbb := bel_trans hb5 (bel_alloc wu (.cells #[.int .i64 u.kind, .int .i64 u.n, .string ⟨u.s.toArray⟩, .slice d1 u.keys.length e1, .slice d2 u.l.length e2] 25))
    have S5 : Hid (BoxIs (wu.alloc (.cells #[.int .i64 u.kind, .int .i64 u.n, .string ⟨u.s.toArray⟩, .slice d1 u.keys.length e1, .slice d2 u.l.length e2] 25)) w.heap.size (.int .i64 t.kind) (.int .i64 t.n) (.string ⟨t.s.toArray⟩) (.slice a1 t.keys.length c1) (.slice a2 t.l.length c2) ∧ BoxIs (wu.alloc (.cells #[.int .i64 u.kind, .int .i64 u.n, .string ⟨u.s.toArray⟩, .slice d1 u.keys.length e1, .slice d2 u.l.length e2] 25)) (w.heap.size + 1) (.int .i64 x.kind) (.int .i64 x.n) (.string ⟨x.s.toArray⟩) (.slice a7 x.keys.length c7) (.slice a8 x.l.length c8) ∧ Below w.heap.size w (wu.alloc (.cells #[.int .i64 u.kind, .int .i64 u.n, .string ⟨u.s.toArray⟩, .slice d1 u.keys.length e1, .slice d2 u.l.length e2] 25))) := ⟨box_bel hbb S.out.1, box_bel hbb S.out.2.1, bel_trans S.out.2.2 hbb⟩
    have U5 : Hid (BoxIs (wu.alloc (.cells #[.int .i64 u.kind, .int .i64 u.n, .string ⟨u.s.toArray⟩, .slice d1 u.keys.length e1, .slice d2 u.l.length e2] 25)) wu.heap.size (.int .i64 u.kind) (.int .i64 u.n) (.string ⟨u.s.toArray⟩) (.slice d1 u.keys.length e1) (.slice d2 u.l.length e2) ∧ In (wu.alloc (.cells #[.int .i64 u.kind, .int .i64 u.n, .string ⟨u.s.toArray⟩, .slice d1 u.keys.length e1, .slice d2 u.l.length e2] 25)) (fun _ => True) u (.agg #[.int .i64 u.kind, .int .i64 u.n, .string ⟨u.s.toArray⟩, .slice d1 u.keys.length e1, .slice d2 u.l.length e2])) := ⟨heap_alloc_new wu _, (hr.bel (bel_alloc _ _)).weak fun _ _ => trivial⟩
    clear hu hr hb5 hbb p0 p1 p2 p3 p4 q0 q1 q2 q3 q4 S
    by_cases hug : ug = 0
    · subst hug
      go_wp2_with fail
      refine (points_at _ (by exact HMM.out.bel S5.out.2.2)).mono ?_
      rintro e wp ⟨rfl, hb6⟩
      have S6 : Hid (BoxIs wp w.heap.size (.int .i64 t.kind) (.int .i64 t.n) (.string ⟨t.s.toArray⟩) (.slice a1 t.keys.length c1) (.slice a2 t.l.length c2) ∧ BoxIs wp (w.heap.size + 1) (.int .i64 x.kind) (.int .i64 x.n) (.string ⟨x.s.toArray⟩) (.slice a7 x.keys.length c7) (.slice a8 x.l.length c8) ∧ Below w.heap.size w wp) := ⟨box_bel hb6 S5.out.1, box_bel hb6 S5.out.2.1, bel_trans S5.out.2.2 hb6⟩
      have U6 : Hid (BoxIs wp wu.heap.size (.int .i64 u.kind) (.int .i64 u.n) (.string ⟨u.s.toArray⟩) (.slice d1 u.keys.length e1) (.slice d2 u.l.length e2) ∧ In wp (fun _ => True) u (.agg #[.int .i64 u.kind, .int .i64 u.n, .string ⟨u.s.toArray⟩, .slice d1 u.keys.length e1, .slice d2 u.l.length e2])) := ⟨box_bel hb6 U5.out.1, U5.out.2.bel hb6⟩
      clear hb6 S5 U5
      go_wp2_with fail
      refine (split_all _ p hp (by exact HMM.out.bel S6.out.2.2)).mono ?_
      rintro e wn ⟨ns, ee, na, nc, rfl, hsp, hns, hb7⟩
      have SP := hidI hsp
      have nlen := hns.1
      unfold maxLen at nlen
      have S7 : Hid (BoxIs wn w.heap.size (.int .i64 t.kind) (.int .i64 t.n) (.string ⟨t.s.toArray⟩) (.slice a1 t.keys.length c1) (.slice a2 t.l.length c2) ∧ BoxIs wn (w.heap.size + 1) (.int .i64 x.kind) (.int .i64 x.n) (.string ⟨x.s.toArray⟩) (.slice a7 x.keys.length c7) (.slice a8 x.l.length c8) ∧ Below w.heap.size w wn) := ⟨box_bel hb7 S6.out.1, box_bel hb7 S6.out.2.1, bel_trans S6.out.2.2 hb7⟩
      have U7 : Hid (BoxIs wn wu.heap.size (.int .i64 u.kind) (.int .i64 u.n) (.string ⟨u.s.toArray⟩) (.slice d1 u.keys.length e1) (.slice d2 u.l.length e2) ∧ In wn (fun _ => True) u (.agg #[.int .i64 u.kind, .int .i64 u.n, .string ⟨u.s.toArray⟩, .slice d1 u.keys.length e1, .slice d2 u.l.length e2])) := ⟨box_bel hb7 U6.out.1, U6.out.2.bel hb7⟩
      have hgood : Hid (goodV u = true) := hidI (lay_ok HU.out).2.2.1
      obtain ⟨r0, r1, r2, r3, r4, -⟩ := U7.out.1.c
      have fin1 : Hid (∀ W : World, W = wn → Calls Tryd.prog 9 #[.agg #[.int .i64 u.kind, .int .i64 u.n, .string ⟨u.s.toArray⟩, .slice d1 u.keys.length e1, .slice d2 u.l.length e2]] W fun e w' => e = .returned (.bool true) ∧ Below w.heap.size w w') := by
        rintro W rfl
        refine (good_is _ _ u _ U7.out.2).mono ?_
        rintro e w' ⟨rfl, hb⟩
        exact ⟨by rw [hgood.out], bel_trans S7.out.2.2 hb⟩
      have NL : ns = [] ∨ ∃ (m : Nat) (s : List UInt8) (nb no : Nat), ns.length = m + 1 ∧ ns.getLast? = some s ∧ na = some ⟨nb, no, none⟩ ∧ ns.length ≤ nc ∧ nc ≤ 9223372036854775807 ∧ wn.cell? ⟨nb, no + m, none⟩ = some (.string ⟨s.toArray⟩) := by
        rcases hns.2 with ⟨e, _⟩ | ⟨nb, no, c', e, h1, h2, hcs⟩
        · exact .inl e
        · by_cases h0 : ns = []
          · exact .inl h0
          · have hpos : 0 < ns.length := List.length_pos_iff.2 h0
            simp only [Value.slice.injEq] at e
            obtain ⟨rfl, -, rfl⟩ := e
            refine .inr ⟨ns.length - 1, ns[ns.length - 1], nb, no, by omega, ?_, rfl, h1, h2, ?_⟩
            · rw [List.getLast?_eq_getElem?, List.getElem?_eq_getElem (by omega)]
            · exact (hcs (ns.length - 1) _ (List.getElem?_eq_getElem (by omega))).2.2
      have got : Hid (ns.getLast? ≠ some [45] → Calls Tryd.prog 22 #[.agg #[.int .i64 u.kind, .int .i64 u.n, .string ⟨u.s.toArray⟩, .slice d1 u.keys.length e1, .slice d2 u.l.length e2], .string ⟨p.toArray⟩] wn fun e w' => ∃ (g1 g2 : Option Addr) (h1 h2 : Nat), e = .returned (.tuple #[.agg #[.int .i64 x.kind, .int .i64 x.n, .string ⟨x.s.toArray⟩, .slice g1 x.keys.length h1, .slice g2 x.l.length h2], .int .i64 0]) ∧ Below wn.heap.size wn w' ∧ In w' (fun _ => True) x (.agg #[.int .i64 x.kind, .int .i64 x.n, .string ⟨x.s.toArray⟩, .slice g1 x.keys.length h1, .slice g2 x.l.length h2])) := by
        intro hl
        refine (get_is _ (fun _ => True) u _ p U7.out.2 hp (HMM.out.bel S7.out.2.2)).mono ?_
        have hg := add_get (p := p) (fun e => by rw [e]; rfl) HU.out (by rw [SP.out]; exact hl)
        rintro e w' ⟨r, rfl, hb, hr⟩
        rw [hg] at hr ⊢
        obtain ⟨g1, g2, h1, h2, rfl⟩ := hr.form
        exact ⟨g1, g2, h1, h2, rfl, hb, hr⟩
      clear hsp hns hb7 S6 U6
      have ending : Hid True := trivial
      rcases NL with h0 | ⟨m, s, nb, no, hm, hlast, rfl, hc1, hc2, hcell⟩
      · subst h0
        have e9 : ¬ ((0 : Int) < 0) := by omega
        simp only [List.length_nil]
        go_wp2_with fail
        refine (got.out (by simp)).mono ?_
        rintro e wg ⟨g1, g2, h1, h2, rfl, hb8, hr⟩
        have hbb := bel_trans hb8 (bel_alloc wg (.cells #[.int .i64 x.kind, .int .i64 x.n, .string ⟨x.s.toArray⟩, .slice g1 x.keys.length h1, .slice g2 x.l.length h2] 25))
        have S8 : Hid (BoxIs (wg.alloc (.cells #[.int .i64 x.kind, .int .i64 x.n, .string ⟨x.s.toArray⟩, .slice g1 x.keys.length h1, .slice g2 x.l.length h2] 25)) w.heap.size (.int .i64 t.kind) (.int .i64 t.n) (.string ⟨t.s.toArray⟩) (.slice a1 t.keys.length c1) (.slice a2 t.l.length c2) ∧ BoxIs (wg.alloc (.cells #[.int .i64 x.kind, .int .i64 x.n, .string ⟨x.s.toArray⟩, .slice g1 x.keys.length h1, .slice g2 x.l.length h2] 25)) (w.heap.size + 1) (.int .i64 x.kind) (.int .i64 x.n) (.string ⟨x.s.toArray⟩) (.slice a7 x.keys.length c7) (.slice a8 x.l.length c8) ∧ Below w.heap.size w (wg.alloc (.cells #[.int .i64 x.kind, .int .i64 x.n, .string ⟨x.s.toArray⟩, .slice g1 x.keys.length h1, .slice g2 x.l.length h2] 25))) := ⟨box_bel hbb S7.out.1, box_bel hbb S7.out.2.1, bel_trans S7.out.2.2 hbb⟩
        have U8 : Hid (BoxIs (wg.alloc (.cells #[.int .i64 x.kind, .int .i64 x.n, .string ⟨x.s.toArray⟩, .slice g1 x.keys.length h1, .slice g2 x.l.length h2] 25)) wu.heap.size (.int .i64 u.kind) (.int .i64 u.n) (.string ⟨u.s.toArray⟩) (.slice d1 u.keys.length e1) (.slice d2 u.l.length e2) ∧ In (wg.alloc (.cells #[.int .i64 x.kind, .int .i64 x.n, .string ⟨x.s.toArray⟩, .slice g1 x.keys.length h1, .slice g2 x.l.length h2] 25)) (fun _ => True) u (.agg #[.int .i64 u.kind, .int .i64 u.n, .string ⟨u.s.toArray⟩, .slice d1 u.keys.length e1, .slice d2 u.l.length e2])) := ⟨box_bel hbb U7.out.1, U7.out.2.bel hbb⟩
        have G8 : Hid (BoxIs (wg.alloc (.cells #[.int .i64 x.kind, .int .i64 x.n, .string ⟨x.s.toArray⟩, .slice g1 x.keys.length h1, .slice g2 x.l.length h2] 25)) wg.heap.size (.int .i64 x.kind) (.int .i64 x.n) (.string ⟨x.s.toArray⟩) (.slice g1 x.keys.length h1) (.slice g2 x.l.length h2) ∧ In (wg.alloc (.cells #[.int .i64 x.kind, .int .i64 x.n, .string ⟨x.s.toArray⟩, .slice g1 x.keys.length h1, .slice g2 x.l.length h2] 25)) (fun _ => True) x (.agg #[.int .i64 x.kind, .int .i64 x.n, .string ⟨x.s.toArray⟩, .slice g1 x.keys.length h1, .slice g2 x.l.length h2])) := ⟨heap_alloc_new wg _, hr.bel (bel_alloc _ _)⟩
        clear hb8 hr hbb r0 r1 r2 r3 r4 S7 U7 got fin1
        obtain ⟨q0, q1, q2, q3, q4, -⟩ := S8.out.2.1.c
        obtain ⟨o0, o1, o2, o3, o4, -⟩ := G8.out.1.c
        go_wp2_with fail
        refine (same_is _ (fun _ => True) (fun _ => True) x _ _ (by exact HX.out.bel S8.out.2.2) (by exact G8.out.2)).mono ?_
        rintro e ws ⟨rfl, hb9⟩
        have U9 : Hid (BoxIs ws wu.heap.size (.int .i64 u.kind) (.int .i64 u.n) (.string ⟨u.s.toArray⟩) (.slice d1 u.keys.length e1) (.slice d2 u.l.length e2) ∧ In ws (fun _ => True) u (.agg #[.int .i64 u.kind, .int .i64 u.n, .string ⟨u.s.toArray⟩, .slice d1 u.keys.length e1, .slice d2 u.l.length e2]) ∧ Below w.heap.size w ws) := ⟨box_bel hb9 U8.out.1, U8.out.2.bel hb9, bel_trans S8.out.2.2 hb9⟩
        clear hb9 q0 q1 q2 q3 q4 o0 o1 o2 o3 o4 S8 U8 G8
        obtain ⟨r0, r1, r2, r3, r4, -⟩ := U9.out.1.c
        go_wp2_with fail
        refine (good_is _ _ u _ (by exact U9.out.2.1)).mono ?_
        rintro e w9 ⟨rfl, hb9⟩
        rw [hgood.out]
        have HB9 := hidI (bel_trans U9.out.2.2 hb9)
        clear hb9
        go_wp2_with fail
        go_ret
        exact ⟨rfl, HB9.out⟩
      · by_cases hs : s = [45]
        · have q5 : (s == [45]) = true := by rw [hs]; rfl
          have e9 : (0 : Int) < (ns.length : Int) := by omega
          have hw : IntKind.i64.wrap ((ns.length : Int) - 1) = (m : Int) := by rw [IntKind.wrap_i64]; omega
          have e10 : (m : Int) < (ns.length : Int) := by omega
          have LS := hidI hlast
          clear hs hlast
          go_wp2_with fail
          refine (fin1.out _ (by rfl)).mono ?_
          rintro e w9 ⟨rfl, hb9⟩
          have HB9 := hidI hb9
          clear hb9
          go_wp2_with fail
          go_ret
          exact ⟨rfl, HB9.out⟩
        · have q5 : (s == [45]) = false := by rw [beq_eq_false_iff_ne]; exact hs
          have e9 : (0 : Int) < (ns.length : Int) := by omega
          have hw : IntKind.i64.wrap ((ns.length : Int) - 1) = (m : Int) := by rw [IntKind.wrap_i64]; omega
          have e10 : (m : Int) < (ns.length : Int) := by omega
          have LS : Hid (ns.getLast? ≠ some [45]) := hidI (by rw [hlast]; intro e; exact hs (by simpa using e))
          clear hs hlast
          go_wp2_with fail
          refine (got.out LS.out).mono ?_
          rintro e wg ⟨g1, g2, h1, h2, rfl, hb8, hr⟩
          have hbb := bel_trans hb8 (bel_alloc wg (.cells #[.int .i64 x.kind, .int .i64 x.n, .string ⟨x.s.toArray⟩, .slice g1 x.keys.length h1, .slice g2 x.l.length h2] 25))
          have S8 : Hid (BoxIs (wg.alloc (.cells #[.int .i64 x.kind, .int .i64 x.n, .string ⟨x.s.toArray⟩, .slice g1 x.keys.length h1, .slice g2 x.l.length h2] 25)) w.heap.size (.int .i64 t.kind) (.int .i64 t.n) (.string ⟨t.s.toArray⟩) (.slice a1 t.keys.length c1) (.slice a2 t.l.length c2) ∧ BoxIs (wg.alloc (.cells #[.int .i64 x.kind, .int .i64 x.n, .string ⟨x.s.toArray⟩, .slice g1 x.keys.length h1, .slice g2 x.l.length h2] 25)) (w.heap.size + 1) (.int .i64 x.kind) (.int .i64 x.n) (.string ⟨x.s.toArray⟩) (.slice a7 x.keys.length c7) (.slice a8 x.l.length c8) ∧ Below w.heap.size w (wg.alloc (.cells #[.int .i64 x.kind, .int .i64 x.n, .string ⟨x.s.toArray⟩, .slice g1 x.keys.length h1, .slice g2 x.l.length h2] 25))) := ⟨box_bel hbb S7.out.1, box_bel hbb S7.out.2.1, bel_trans S7.out.2.2 hbb⟩
          have U8 : Hid (BoxIs (wg.alloc (.cells #[.int .i64 x.kind, .int .i64 x.n, .string ⟨x.s.toArray⟩, .slice g1 x.keys.length h1, .slice g2 x.l.length h2] 25)) wu.heap.size (.int .i64 u.kind) (.int .i64 u.n) (.string ⟨u.s.toArray⟩) (.slice d1 u.keys.length e1) (.slice d2 u.l.length e2) ∧ In (wg.alloc (.cells #[.int .i64 x.kind, .int .i64 x.n, .string ⟨x.s.toArray⟩, .slice g1 x.keys.length h1, .slice g2 x.l.length h2] 25)) (fun _ => True) u (.agg #[.int .i64 u.kind, .int .i64 u.n, .string ⟨u.s.toArray⟩, .slice d1 u.keys.length e1, .slice d2 u.l.length e2])) := ⟨box_bel hbb U7.out.1, U7.out.2.bel hbb⟩
          have G8 : Hid (BoxIs (wg.alloc (.cells #[.int .i64 x.kind, .int .i64 x.n, .string ⟨x.s.toArray⟩, .slice g1 x.keys.length h1, .slice g2 x.l.length h2] 25)) wg.heap.size (.int .i64 x.kind) (.int .i64 x.n) (.string ⟨x.s.toArray⟩) (.slice g1 x.keys.length h1) (.slice g2 x.l.length h2) ∧ In (wg.alloc (.cells #[.int .i64 x.kind, .int .i64 x.n, .string ⟨x.s.toArray⟩, .slice g1 x.keys.length h1, .slice g2 x.l.length h2] 25)) (fun _ => True) x (.agg #[.int .i64 x.kind, .int .i64 x.n, .string ⟨x.s.toArray⟩, .slice g1 x.keys.length h1, .slice g2 x.l.length h2])) := ⟨heap_alloc_new wg _, hr.bel (bel_alloc _ _)⟩
          clear hb8 hr hbb r0 r1 r2 r3 r4 S7 U7 got fin1
          obtain ⟨q0, q1, q2, q3, q4, -⟩ := S8.out.2.1.c
          obtain ⟨o0, o1, o2, o3, o4, -⟩ := G8.out.1.c
          go_wp2_with fail
          refine (same_is _ (fun _ => True) (fun _ => True) x _ _ (by exact HX.out.bel S8.out.2.2) (by exact G8.out.2)).mono ?_
          rintro e ws ⟨rfl, hb9⟩
          have U9 : Hid (BoxIs ws wu.heap.size (.int .i64 u.kind) (.int .i64 u.n) (.string ⟨u.s.toArray⟩) (.slice d1 u.keys.length e1) (.slice d2 u.l.length e2) ∧ In ws (fun _ => True) u (.agg #[.int .i64 u.kind, .int .i64 u.n, .string ⟨u.s.toArray⟩, .slice d1 u.keys.length e1, .slice d2 u.l.length e2]) ∧ Below w.heap.size w ws) := ⟨box_bel hb9 U8.out.1, U8.out.2.bel hb9, bel_trans S8.out.2.2 hb9⟩
          clear hb9 q0 q1 q2 q3 q4 o0 o1 o2 o3 o4 S8 U8 G8
          obtain ⟨r0, r1, r2, r3, r4, -⟩ := U9.out.1.c
          go_wp2_with fail
          refine (good_is _ _ u _ (by exact U9.out.2.1)).mono ?_
          rintro e w9 ⟨rfl, hb9⟩
          rw [hgood.out]
          have HB9 := hidI (bel_trans U9.out.2.2 hb9)
          clear hb9
          go_wp2_with fail
          go_ret
          exact ⟨rfl, HB9.out⟩
    · have e1 : (ug != 0) = true := by rw [bne_iff_ne]; exact hug
      have e2 : (ug == 0) = false := by rw [beq_eq_false_iff_ne]; exact hug
      have hut : u = t := by have := lay_err (how := addedV) (p := p) (sp := splitP p) (v := t) (x := x) (by rw [HU.out]; exact hug); rw [HU.out] at this; exact this
      subst hut
      clear hug
      obtain ⟨p0, p1, p2, p3, p4, -⟩ := S5.out.1.c
      obtain ⟨r0, r1, r2, r3, r4, -⟩ := U5.out.1.c
      go_wp2_with fail
      refine (same_is _ (fun _ => True) (fun _ => True) u _ _ (by exact U5.out.2) (by exact H.out.bel S5.out.2.2)).mono ?_
      rintro e ws ⟨rfl, hb6⟩
      have B6 := hidI (bel_trans S5.out.2.2 hb6)
      clear hb6 p0 p1 p2 p3 p4 r0 r1 r2 r3 r4
      go_wp2_with fail
      refine (points_at _ (by exact HMM.out.bel B6.out)).mono ?_
      rintro e wp ⟨rfl, hb7⟩
      have B7 := hidI (bel_trans B6.out hb7)
      clear hb7
      go_wp2_with fail
      go_ret
      exact ⟨rfl, B7.out⟩
end Go.Proofs.YtcpkmpaemnlkmabDoor
