/- What meant of package point does. -/
import Derived.Test.YtaifciobaapehaaDoorXa
import Derived.Test.YtaifciobaapehaaDoorXb
set_option linter.unusedSimpArgs false
set_option linter.unusedVariables false
namespace Go.Proofs.YtaifciobaapehaaDoor
open Go.RowKit

/- A list in memory, in two parts. -/
theorem rows_at {w : World} {ok : Nat → Prop} {d : Nat} {l : List V} {a : Option Addr} {n c : Nat} (h : ValsAre w ok (VIs w ok d) l (.slice a n c)) (i j : Nat) (hij : i ≤ j) (hj : j ≤ l.length) (hl : l.length ≤ 1000000) :
    ∃ cs1 cs2 v1 v3, RowV (VIs w ok d) (l.take i) cs1 ∧ RowV (VIs w ok d) (l.drop j) cs2 ∧ SlIs w 5 v1 i cs1 ∧ SlIs w 5 v3 (l.length - j) cs2 ∧ (c = 0 ∧ l.length = 0 ∧ v1 = .slice a 0 0 ∧ v3 = .slice a l.length 0 ∨ ∃ b off, a = some ⟨b, off, none⟩ ∧ l.length ≤ c ∧ c ≤ 9223372036854775807 ∧ v1 = .slice (some ⟨b, off, none⟩) i c ∧ v3 = .slice (if c = j then some ⟨b, off, none⟩ else some ⟨b, off + j * 5, none⟩) (l.length - j) (c - j)) := by
  have h' := h
  obtain ⟨_, K5⟩ := h
  rcases K5 with ⟨e, e2⟩ | ⟨b, off, c, hls, hc1, hc2, hcs⟩
  · obtain ⟨a0, e2⟩ := e2
    simp only [Value.slice.injEq] at e2
    obtain ⟨-, e3, e6⟩ := e2
    subst e6
    have e4 : l.length = 0 := by rw [e]; rfl
    have e5 : j = 0 := by omega
    have e7 : i = 0 := by omega
    refine ⟨[], [], _, _, ?_, ?_, ?_, ?_, .inl ⟨rfl, e4, rfl, rfl⟩⟩
    · rw [e, List.take_nil]; rfl
    · rw [e, List.drop_nil]; rfl
    · rw [e7]; exact slnil w 5 a
    · rw [e4, e5]; exact slnil w 5 a
  · simp only [Value.slice.injEq] at hls
    obtain ⟨rfl, rfl, rfl⟩ := hls
    obtain ⟨cs1, cs2, r1, s1, r2, s2⟩ := sl_parts h' i j hij hj hl
    exact ⟨cs1, cs2, _, _, r1, r2, s1, s2, .inr ⟨b, off, rfl, hc1, hc2, rfl, rfl⟩⟩

set_option maxRecDepth 100000 in
set_option maxHeartbeats 4000000 in
theorem meant_is (w : World) (ok : Nat → Prop) (t : V) (v : Value) (s : List UInt8) (h : In w ok t v) (hs : s.length ≤ 9223372036854775807) :
    Calls Tryd.prog 25 #[v, str s] w fun e w' => ∃ x b, e = .returned (.tuple #[x, .bool b]) ∧ Below w.heap.size w w' ∧ OptIn w' ok (meantV t s) x b := by
  have H := hidI h.low
  have HO := hidI h
  obtain ⟨l1, l2, l3⟩ := h.lens
  obtain ⟨a1, a2, c1, c2, rfl⟩ := h.form
  clear h
  by_cases hk : t.kind = 4
  · have q1 : (t.kind == 4) = true := by rw [hk]; rfl
    have q2 : (t.kind != 4) = false := by rw [hk]; rfl
    by_cases hm : ∃ i, placeP t.l.length s = some i ∧ i < t.l.length
    · obtain ⟨i, hp, hi⟩ := hm
      have HM : Hid (meantV t s = some t.l[i]) := hidI (by unfold meantV; rw [if_pos hk, hp, Option.bind_some, List.getElem?_eq_getElem hi])
      have HP := hidI hp
      have e1 : ((i : Int) == (t.l.length : Int)) = false := by rw [beq_eq_false_iff_ne]; omega
      clear hp hk
      obtain ⟨b, off, a5, c5, a6, c6, rfl, hc1, hc2, g0, g1, g2, g3, g4, g5⟩ := HO.out.item hi
      have G : Hid (_ ∧ _ ∧ _ ∧ _ ∧ _) := ⟨g0, g1, g2, g3, g4⟩
      have G5 := hidI g5.low
      clear g0 g1 g2 g3 g4 g5
      go_enter Tryd.func25, Tryd.ntmps25
      go_wp2_with fail
      refine (place_at _ _ t.l.length c2 s l2 hs).mono ?_
      rintro e w1 ⟨rfl, hw⟩
      rw [HP.out]
      unfold numV
      have hb1 : Below w.heap.size w w1 := by rw [hw]; exact bel_trans (bel_alloc _ _) (bel_alloc _ _)
      have hbx : BoxIs w1 (w.heap.size + 1) (.int .i64 0) (.int .i64 0) (.string ⟨#[]⟩) (.slice none 0 0) (.slice none 0 0) := by rw [hw]; exact h2b w _ _
      have hbv : BoxIs w1 w.heap.size (.int .i64 t.kind) (.int .i64 t.n) (.string ⟨t.s.toArray⟩) (.slice a1 t.keys.length c1) (.slice (some ⟨b, off, none⟩) t.l.length c2) := by rw [hw]; exact h2a w _ _
      obtain ⟨-, -, -, -, p4, -⟩ := hbv.c
      obtain ⟨x0, x1, x2, x3, x4, y0, y1, y2, y3, y4⟩ := hbx.c
      have Z : Hid (Below w.heap.size w w1 ∧ BoxIs (set5 w1 (w.heap.size + 1) (.int .i64 t.l[i].kind) (.int .i64 t.l[i].n) (.string ⟨t.l[i].s.toArray⟩) (.slice a5 t.l[i].keys.length c5) (.slice a6 t.l[i].l.length c6)) (w.heap.size + 1) (.int .i64 t.l[i].kind) (.int .i64 t.l[i].n) (.string ⟨t.l[i].s.toArray⟩) (.slice a5 t.l[i].keys.length c5) (.slice a6 t.l[i].l.length c6)) := ⟨hb1, hbx.set _ _ _ _ _⟩
      obtain ⟨g0, g1, g2, g3, g4⟩ := G.out
      have m0 := cell_bel hb1 g0
      have m1 := cell_bel hb1 g1
      have m2 := cell_bel hb1 g2
      have m3 := cell_bel hb1 g3
      have m4 := cell_bel hb1 g4
      clear hw hb1 hbx hbv g0 g1 g2 g3 g4 G
      simp only [Option.getD_some, Option.isSome_some]
      go_wp2_with fail
      obtain ⟨z0, z1, z2, z3, z4, -⟩ := Z.out.2.c
      refine bodyPost_ret (v := .tuple #[.agg #[.int .i64 t.l[i].kind, .int .i64 t.l[i].n, .string ⟨t.l[i].s.toArray⟩, .slice a5 t.l[i].keys.length c5, .slice a6 t.l[i].l.length c6], .bool true]) ?_ rfl ?_
      · simp only [set5] at z0 z1 z2 z3 z4
        simp [results, Tryd.results25, go_sem, z0, z1, z2, z3, z4]
      · refine ⟨_, _, rfl, bel_set5 Z.out.1 (Nat.le_succ _) _ _ _ _ _, ?_⟩
        rw [HM.out]
        exact OptIn.some (((G5.out.bel Z.out.1).grown (set5_gb w1 _ _ _ _ _ _) (fun k hk => by omega)).weak fun k hk => hk.1)
    · have HM : Hid (meantV t s = none) := hidI (by
        unfold meantV
        rw [if_pos hk]
        cases hp : placeP t.l.length s with
        | none => rfl
        | some i => rw [Option.bind_some, List.getElem?_eq_none]; exact Nat.le_of_not_lt fun h => hm ⟨i, hp, h⟩)
      have hq : ((placeP t.l.length s).isSome = false ∧ placeP t.l.length s = none) ∨ placeP t.l.length s = some t.l.length := by
        cases hp : placeP t.l.length s with
        | none => exact .inl ⟨rfl, rfl⟩
        | some i =>
          have h1 := place_le hp
          have h2 : ¬ i < t.l.length := fun h => hm ⟨i, hp, h⟩
          exact .inr (by rw [show i = t.l.length by omega])
      have e1 : ((t.l.length : Int) == (t.l.length : Int)) = true := by simp
      clear hm hk
      rcases hq with ⟨-, hp⟩ | hp
      all_goals
        have HP := hidI hp
        clear hp
        go_enter Tryd.func25, Tryd.ntmps25
        go_wp2_with fail
        refine (place_at _ _ t.l.length c2 s l2 hs).mono ?_
        rintro e w1 ⟨rfl, hw⟩
        rw [HP.out]
        unfold numV
        have hb1 : Below w.heap.size w w1 := by rw [hw]; exact bel_trans (bel_alloc _ _) (bel_alloc _ _)
        have hbx : BoxIs w1 (w.heap.size + 1) (.int .i64 0) (.int .i64 0) (.string ⟨#[]⟩) (.slice none 0 0) (.slice none 0 0) := by rw [hw]; exact h2b w _ _
        have hbv : BoxIs w1 w.heap.size (.int .i64 t.kind) (.int .i64 t.n) (.string ⟨t.s.toArray⟩) (.slice a1 t.keys.length c1) (.slice a2 t.l.length c2) := by rw [hw]; exact h2a w _ _
        obtain ⟨-, -, -, -, p4, -⟩ := hbv.c
        obtain ⟨x0, x1, x2, x3, x4, y0, y1, y2, y3, y4⟩ := hbx.c
        have Z : Hid (Below w.heap.size w w1 ∧ BoxIs (set5 w1 (w.heap.size + 1) (.int .i64 0) (.int .i64 0) (.string ⟨#[]⟩) (.slice none 0 0) (.slice none 0 0)) (w.heap.size + 1) (.int .i64 0) (.int .i64 0) (.string ⟨#[]⟩) (.slice none 0 0) (.slice none 0 0)) := ⟨hb1, hbx.set _ _ _ _ _⟩
        clear hw hb1 hbx hbv
        simp only [Option.getD_some, Option.isSome_some, Option.getD_none, Option.isSome_none]
        go_wp2_with fail
        obtain ⟨z0, z1, z2, z3, z4, -⟩ := Z.out.2.c
        refine bodyPost_ret (v := .tuple #[.agg #[.int .i64 0, .int .i64 0, .string ⟨#[]⟩, .slice none 0 0, .slice none 0 0], .bool false]) ?_ rfl ?_
        · simp only [set5] at z0 z1 z2 z3 z4
          simp [results, Tryd.results25, go_sem, z0, z1, z2, z3, z4]
        · refine ⟨_, _, rfl, bel_set5 Z.out.1 (Nat.le_succ _) _ _ _ _ _, ?_⟩
          rw [HM.out]
          exact OptIn.none (in_zero _ _)
  · have q1 : (t.kind == 4) = false := by rw [beq_eq_false_iff_ne]; exact hk
    have q2 : (t.kind != 4) = true := by rw [bne_iff_ne]; exact hk
    have HM : Hid (meantV t s = memV t s) := hidI (by unfold meantV; rw [if_neg hk])
    clear hk
    go_enter Tryd.func25, Tryd.ntmps25
    go_wp2_with fail
    refine (member_is _ (fun k => ok k ∧ k < w.heap.size) t _ s (by exact H.out.bel (bel_trans (bel_alloc _ _) (bel_alloc _ _)))).mono ?_
    rintro e w1 ⟨x, b, rfl, hb1, hb2, y, hy, hyz⟩
    obtain ⟨a5, a6, c5, c6, rfl⟩ := hy.form
    have R : Hid (Below w.heap.size w w1 ∧ b = (meantV t s).isSome ∧ In w1 (fun k => ok k ∧ k < w.heap.size) y (.agg #[.int .i64 y.kind, .int .i64 y.n, .string ⟨y.s.toArray⟩, .slice a5 y.keys.length c5, .slice a6 y.l.length c6]) ∧ ∀ z, meantV t s = some z → y = z) :=
      ⟨bel_trans (bel_trans (bel_alloc _ _) (bel_alloc _ _)) hb1, by rw [HM.out]; exact hb2, hy, by rw [HM.out]; exact hyz⟩
    have hbx : BoxIs w1 (w.heap.size + 1) (.int .i64 0) (.int .i64 0) (.string ⟨#[]⟩) (.slice none 0 0) (.slice none 0 0) := box_bel hb1 (h2b w _ _)
    obtain ⟨x0, x1, x2, x3, x4, y0, y1, y2, y3, y4⟩ := hbx.c
    have Z : Hid (BoxIs (set5 w1 (w.heap.size + 1) (.int .i64 y.kind) (.int .i64 y.n) (.string ⟨y.s.toArray⟩) (.slice a5 y.keys.length c5) (.slice a6 y.l.length c6)) (w.heap.size + 1) (.int .i64 y.kind) (.int .i64 y.n) (.string ⟨y.s.toArray⟩) (.slice a5 y.keys.length c5) (.slice a6 y.l.length c6)) := hbx.set _ _ _ _ _
    clear hb1 hb2 hy hyz hbx
    go_wp2_with fail
    obtain ⟨z0, z1, z2, z3, z4, -⟩ := Z.out.c
    refine bodyPost_ret (v := .tuple #[.agg #[.int .i64 y.kind, .int .i64 y.n, .string ⟨y.s.toArray⟩, .slice a5 y.keys.length c5, .slice a6 y.l.length c6], .bool b]) ?_ rfl ?_
    · simp only [set5] at z0 z1 z2 z3 z4
      simp [results, Tryd.results25, go_sem, z0, z1, z2, z3, z4]
    · obtain ⟨r1, r2, r3, r4⟩ := R.out
      refine ⟨_, _, rfl, bel_set5 r1 (Nat.le_succ _) _ _ _ _ _, r2, y, ?_, r4⟩
      exact (r3.grown (set5_gb w1 _ _ _ _ _ _) (fun k hk => by omega)).weak fun k hk => hk.1
end Go.Proofs.YtaifciobaapehaaDoor
