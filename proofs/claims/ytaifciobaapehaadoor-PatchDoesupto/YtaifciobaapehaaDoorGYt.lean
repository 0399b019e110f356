/- What twin of package patch does. -/
import Derived.Test.YtaifciobaapehaaDoorGFw
import Derived.Deep.DrawnRows
import Derived.Test.YtaifciobaapehaaDoorGWp
import Derived.Lib.AppendZeros
import Derived.Test.YtaifciobaapehaaDoorXa
import Derived.Test.YtaifciobaapehaaDoorXm
/- What WithoutMember of package stairwellref does. -/
set_option linter.unusedSimpArgs false
set_option linter.unusedVariables false
namespace Go.Proofs.YtaifciobaapehaaDoor
open Go.RowKit

/- Of the first k members those that stay are made. -/
def FO (w : World) (t : V) (a1 a2 : Option Addr) (c1 c2 : Nat) (W : World) : Prop := BoxIs W w.heap.size (.int .i64 t.kind) (.int .i64 t.n) (.string ⟨t.s.toArray⟩) (.slice a1 t.keys.length c1) (.slice a2 t.l.length c2) ∧ BoxIs W (w.heap.size + 1) (.int .i64 0) (.int .i64 0) (.string ⟨#[]⟩) (.slice none 0 0) (.slice none 0 0)
theorem FO.stays (w : World) (t : V) (a1 a2 : Option Addr) (c1 c2 : Nat) : Stays (w.heap.size + 2 + 1) (FO w t a1 a2 c1 c2) := fun W W' r h1 h2 h3 =>
  ⟨bx_stays (B := w.heap.size + 2 + 1) (by omega) W W' r h1.1 h2 h3, bx_stays (B := w.heap.size + 2 + 1) (by omega) W W' r h1.2 h2 h3⟩
def WoI (w : World) (ok : Nat → Prop) (d : Nat) (t : V) (key : List UInt8) (a1 a2 : Option Addr) (c1 c2 k : Nat) (wr : World) : Prop :=
  ∃ ps kv lv, SO w 2 (FO w t a1 a2 c1 c2) kv lv wr ∧ OE w ok (w.heap.size + 2 + 1) d (ps.map Prod.fst) (ps.map Prod.snd) kv lv wr ∧ ps ++ woF key ((t.keys.zip t.l).drop k) = woF key (t.keys.zip t.l) ∧ w.heap.size + 2 + 1 ≤ wr.heap.size
theorem wo_more {w W : World} {ok : Nat → Prop} {d : Nat} {t : V} {key : List UInt8} {a1 a2 : Option Addr} {c1 c2 k : Nat} {ps : List (List UInt8 × V)} {kv lv kv' lv' : Value} (hl : t.keys.length = t.l.length) (h1 : k < t.keys.length) (h2 : k < t.l.length) (hne : t.keys[k] ≠ key)
    (hps : ps ++ woF key ((t.keys.zip t.l).drop k) = woF key (t.keys.zip t.l)) (hs : SO w 2 (FO w t a1 a2 c1 c2) kv lv W) (ho : OE w ok (w.heap.size + 2 + 1) d (ps.map Prod.fst ++ [t.keys[k]]) (ps.map Prod.snd ++ [t.l[k]]) kv' lv' W) :
    WoI w ok d t key a1 a2 c1 c2 (k + 1) ((W.setCell ⟨w.heap.size + 2, 3, none⟩ kv').setCell ⟨w.heap.size + 2, 4, none⟩ lv') := by
  refine ⟨ps ++ [(t.keys[k], t.l[k])], kv', lv', hs.stored (fun W i x h => ⟨bx_set h.1 (by omega) i x, bx_set h.2 (by omega) i x⟩), ?_, ?_, ?_⟩
  · rw [List.map_append, List.map_append]
    exact (ho.set (by omega) (by omega) _ _).set (by omega) (by omega) _ _
  · rw [← hps, zip_drop h1 h2]
    simp [woF, List.filter_cons, hne]
  · have := hs.1.lt
    have e : ((W.setCell ⟨w.heap.size + 2, 3, none⟩ kv').setCell ⟨w.heap.size + 2, 4, none⟩ lv').heap.size = W.heap.size := by simp [World.setCell]
    omega
theorem wo_less {w wr : World} {ok : Nat → Prop} {d : Nat} {t : V} {key : List UInt8} {a1 a2 : Option Addr} {c1 c2 k : Nat} (hl : t.keys.length = t.l.length) (h1 : k < t.keys.length) (he : t.keys[k] = key) (h : WoI w ok d t key a1 a2 c1 c2 k wr) : WoI w ok d t key a1 a2 c1 c2 (k + 1) wr := by
  obtain ⟨ps, kv, lv, i1, i2, i3, i4⟩ := h
  refine ⟨ps, kv, lv, i1, i2, ?_, i4⟩
  rw [← i3, zip_drop h1 (by omega)]
  simp [woF, List.filter_cons, he]

attribute [local go_sem ↓] Go.wp_at_zero Go.wp_at_succ
set_option maxRecDepth 100000 in
set_option maxHeartbeats 4000000 in
theorem rwithout_at (w : World) (ok : Nat → Prop) (d : Nat) (t : V) (v : Value) (key : List UInt8) (h : VIs w ok (d + 1) t v) (ho : Ob t) (hl : t.l.length ≤ 100000) :
    Calls Tryd.prog 55 #[v, str key] w fun e w' => ∃ r, e = .returned r ∧ VIs w' (okN ok w.heap.size) (d + 1) (withoutV t key) r ∧ Below w.heap.size w w' := by
  obtain ⟨a1, a2, c1, c2, rfl⟩ := h.shape
  have OB := hidI ho
  have HL := hidI ho.2.2.2.1
  have VV : Hid (ValsAre w ok (VIs w ok d) t.l (.slice a2 t.l.length c2) ∧ StrsAre w ok t.keys (.slice a1 t.keys.length c1)) := hidI (by
    obtain ⟨ks, ls, e, h1, h2, h3, h4, h5⟩ := h
    simp only [Value.agg.injEq, Array.mk.injEq, List.cons.injEq, and_true] at e
    obtain ⟨-, -, -, rfl, rfl⟩ := e
    exact ⟨h5, h4⟩)
  have lk : t.keys.length ≤ 100000 := by rw [HL.out]; exact hl
  clear h ho
  unfold str
  have HF : Hid _ := hidI (FO.stays w t a1 a2 c1 c2)
  have I0 : Hid (WoI w ok d t key a1 a2 c1 c2 0 (((w.alloc (.cells #[.int .i64 t.kind, .int .i64 t.n, .string ⟨t.s.toArray⟩, .slice a1 t.keys.length c1, .slice a2 t.l.length c2] 25)).alloc (.cells #[.int .i64 0, .int .i64 0, .string ⟨#[]⟩, .slice none 0 0, .slice none 0 0] 25)).alloc (.cells #[.int .i64 5, .int .i64 0, .string ⟨#[]⟩, .slice none 0 0, .slice none 0 0] 25))) := hidI (by
    have hb : Below w.heap.size w (((w.alloc (.cells #[.int .i64 t.kind, .int .i64 t.n, .string ⟨t.s.toArray⟩, .slice a1 t.keys.length c1, .slice a2 t.l.length c2] 25)).alloc (.cells #[.int .i64 0, .int .i64 0, .string ⟨#[]⟩, .slice none 0 0, .slice none 0 0] 25)).alloc (.cells #[.int .i64 5, .int .i64 0, .string ⟨#[]⟩, .slice none 0 0, .slice none 0 0] 25)) := bel_trans (bel_trans (bel_alloc _ _) (bel_alloc _ _)) (bel_alloc _ _)
    refine ⟨[], .slice none 0 0, .slice none 0 0, ⟨?_, ⟨?_, ?_⟩, hb⟩, OE.nil hb (by omega), by simp, by simp⟩
    · exact h3c w _ _ _
    · exact h3a w _ _ _
    · exact h3b w _ _ _)
  go_enter Tryd.func55, Tryd.ntmps55
  go_wp2_with fail
  go_loopg [12] t.keys.length (fun gk i wr => ∃ k : Nat, k ≤ t.keys.length ∧ gk = t.keys.length - k ∧ i = .int .i64 k ∧ WoI w ok d t key a1 a2 c1 c2 k wr)
  case atStart => exact ⟨0, Nat.zero_le _, rfl, rfl, I0.out⟩
  case round =>
    obtain ⟨k, hk, hgk, rfl, hI⟩ := hrel
    have GK := hidI hgk
    have II := hidI hI
    clear hgk hI I0
    by_cases hlt : k < t.keys.length
    · have hlt' : k < t.l.length := by have := HL.out; omega
      obtain ⟨kb, ko, rfl, j1, j2, jk⟩ := strs_at VV.out.2 hlt
      have w1 : (0 : Int) ≤ (k : Int) := by omega
      have w2 : (k : Int) < (t.keys.length : Int) := by omega
      have w3 : (k : Int) < (t.l.length : Int) := by omega
      unfold maxLen at j2
      by_cases he : t.keys[k] = key
      · have e3 : (t.keys[k] == key) = true := by simp [he]
        have HN := hidI (wo_less HL.out hlt he II.out)
        have jk2 := cell_bel (by obtain ⟨ps, kv, lv, i1, -⟩ := II.out; exact i1.2.2) jk
        clear he
        go_wp2_with fail
        go_roundg (t.keys.length - (k + 1))
        case measure => rw [GK.out]; omega
        case rel => exact ⟨k + 1, hlt, rfl, by go_num, HN.out⟩
      · have e3 : (t.keys[k] == key) = false := by simp [he]
        have HNE := hidI he
        obtain ⟨xb, xo, rfl, j3, j4, a5, c5, a6, c6, g0, g1, g2, g3, g4, g5⟩ := vals_at VV.out.1 hlt'
        unfold maxLen at j4
        have G0 := hidI g0
        have G1 := hidI g1
        have G2 := hidI g2
        have G3 := hidI g3
        have G4 := hidI g4
        have HY := hidI g5.below
        obtain ⟨ps, kv, lv, i1, i2, i3, i4⟩ := II.out
        have jk2 := cell_bel i1.2.2 jk
        have HPS := hidI i3
        have hpl : ps.length ≤ 100000 := by
          have h0 := congrArg List.length i3
          have h1 : (woF key (t.keys.zip t.l)).length ≤ (t.keys.zip t.l).length := List.length_filter_le _ _
          simp at h0 h1
          omega
        have hnk : (ps.map Prod.fst).length ≤ 1000000 := by rw [List.length_map]; omega
        have hnl : (ps.map Prod.snd).length ≤ 1000000 := by rw [List.length_map]; omega
        have OEc := hidI i2
        have hBc : w.heap.size + 2 + 1 ≤ wr.heap.size := i4
        have SOc := hidI i1
        have LK : Hid (∀ g, kv.ownBlock = some g → g < wr.heap.size) := hidI (fun g e => (i2.kown g e).2)
        clear he g0 g1 g2 g3 g4 g5 i1 i2 i3 i4 hpl
        go_upto_region 6 with fail
        refine wp_region_T (SO w 2 (FO w t (some ⟨kb, ko, none⟩) (some ⟨xb, xo, none⟩) c1 c2) kv lv) [15] (by kernel_rfl) (SOc.out.drew HF.out) (fun hHeld => ?_)
        refine wpAnyT_take (i := 0) (v := ?_) [1, 4, 13, 14, 15, 16, 17] (oi := _) rfl (by kernel_rfl) (by kernel_rfl) (by kernel_rfl) (by kernel_rfl) (fun _ _ _ h => h) (Or.inl ⟨by rfl, ?_⟩) hHeld ?_
        rotate_left
        · intro wS hSw
          go_simp
          all_goals with_reducible rfl
        simp only [Act.put, List.setIfInBounds_toArray, List.set_cons_zero, List.set_cons_succ]
        refine wpAnyT_take (i := 1) (v := ?_) [4, 13, 14, 15, 16, 17] (oi := _) rfl (by kernel_rfl) (by kernel_rfl) (by kernel_rfl) (by kernel_rfl) (fun _ _ _ h => h) (Or.inl ⟨by rfl, ?_⟩) hHeld ?_
        rotate_left
        · intro wS hSw
          obtain ⟨s1, ⟨s2, s3⟩, s4⟩ := hSw
          obtain ⟨x0, x1, x2, x3, x4, -⟩ := s1.c
          obtain ⟨y0, y1, y2, y3, y4, -⟩ := s2.c
          have e0 := cell_bel s4 G0.out
          have e1 := cell_bel s4 G1.out
          have e2 := cell_bel s4 G2.out
          have e3 := cell_bel s4 G3.out
          have e4 := cell_bel s4 G4.out
          go_simp
          all_goals with_reducible rfl
        simp only [Act.put, List.setIfInBounds_toArray, List.set_cons_zero, List.set_cons_succ]
        refine wpAnyT_take (i := 2) (v := ?_) [3, 4, 13, 14, 15, 16, 17] (oi := _) rfl (by kernel_rfl) (by kernel_rfl) (by kernel_rfl) (by kernel_rfl) (fun _ _ _ h => h) (Or.inl ⟨by rfl, ?_⟩) hHeld ?_
        rotate_left
        · intro wS hSw
          go_simp
          all_goals with_reducible rfl
        simp only [Act.put, List.setIfInBounds_toArray, List.set_cons_zero, List.set_cons_succ]
        refine wpAnyT_take (i := 5) (v := ?_) [6, 13, 14, 15, 16, 17] (oi := _) rfl (by kernel_rfl) (by kernel_rfl) (by kernel_rfl) (by kernel_rfl) (fun _ _ _ h => h) (Or.inl ⟨by rfl, ?_⟩) hHeld ?_
        rotate_left
        · intro wS hSw
          go_simp
          all_goals with_reducible rfl
        simp only [Act.put, List.setIfInBounds_toArray, List.set_cons_zero, List.set_cons_succ]
        refine wpAnyT_take (i := 6) (v := ?_) [13, 14, 15, 16, 17] (oi := _) rfl (by kernel_rfl) (by kernel_rfl) (by kernel_rfl) (by kernel_rfl) (fun _ _ _ h => h) (Or.inl ⟨by rfl, ?_⟩) hHeld ?_
        rotate_left
        · intro wS hSw
          obtain ⟨s1, ⟨s2, s3⟩, s4⟩ := hSw
          obtain ⟨x0, x1, x2, x3, x4, -⟩ := s1.c
          obtain ⟨y0, y1, y2, y3, y4, -⟩ := s2.c
          have e0 := cell_bel s4 G0.out
          have e1 := cell_bel s4 G1.out
          have e2 := cell_bel s4 G2.out
          have e3 := cell_bel s4 G3.out
          have e4 := cell_bel s4 G4.out
          go_simp
          all_goals with_reducible rfl
        simp only [Act.put, List.setIfInBounds_toArray, List.set_cons_zero, List.set_cons_succ]
        refine wpAnyT_take (i := 7) (v := ?_) [8, 10, 11, 12, 13, 15, 16, 17] (oi := _) rfl (by kernel_rfl) (by kernel_rfl) (by kernel_rfl) (by kernel_rfl) (fun _ _ _ h => h) (Or.inl ⟨by rfl, ?_⟩) hHeld ?_
        rotate_left
        · intro wS hSw
          go_simp
          all_goals with_reducible rfl
        simp only [Act.put, List.setIfInBounds_toArray, List.set_cons_zero, List.set_cons_succ]
        refine wpAnyT_take (i := 8) (v := ?_) [10, 11, 12, 13, 15, 16, 17] (oi := _) rfl (by kernel_rfl) (by kernel_rfl) (by kernel_rfl) (by kernel_rfl) (fun _ _ _ h => h) (Or.inl ⟨by rfl, ?_⟩) hHeld ?_
        rotate_left
        · intro wS hSw
          obtain ⟨s1, ⟨s2, s3⟩, s4⟩ := hSw
          obtain ⟨x0, x1, x2, x3, x4, -⟩ := s1.c
          obtain ⟨y0, y1, y2, y3, y4, -⟩ := s2.c
          have e0 := cell_bel s4 G0.out
          have e1 := cell_bel s4 G1.out
          have e2 := cell_bel s4 G2.out
          have e3 := cell_bel s4 G3.out
          have e4 := cell_bel s4 G4.out
          go_simp
          all_goals with_reducible rfl
        simp only [Act.put, List.setIfInBounds_toArray, List.set_cons_zero, List.set_cons_succ]
        refine wpAnyT_take (i := 9) (v := ?_) [10, 11, 12, 13, 15, 16, 17] (oi := _) rfl (by kernel_rfl) (by kernel_rfl) (by kernel_rfl) (by kernel_rfl) (fun _ _ _ h => h) (Or.inl ⟨by rfl, ?_⟩) hHeld ?_
        rotate_left
        · intro wS hSw
          go_simp
          all_goals with_reducible rfl
        simp only [Act.put, List.setIfInBounds_toArray, List.set_cons_zero, List.set_cons_succ]
        refine wpAnyT_take (i := 10) (v := ?_) [11, 12, 13, 15, 16, 17] (oi := _) rfl (by kernel_rfl) (by kernel_rfl) (by kernel_rfl) (by kernel_rfl) (fun _ _ _ h => h) (Or.inl ⟨by rfl, ?_⟩) hHeld ?_
        rotate_left
        · intro wS hSw
          go_simp
          all_goals with_reducible rfl
        simp only [Act.put, List.setIfInBounds_toArray, List.set_cons_zero, List.set_cons_succ]
        refine wpAnyT_take (i := 11) (v := ?_) [12, 13, 15, 16, 17] (oi := _) rfl (by kernel_rfl) (by kernel_rfl) (by kernel_rfl) (by kernel_rfl) (fun _ _ _ h => h) (Or.inl ⟨by rfl, ?_⟩) hHeld ?_
        rotate_left
        · intro wS hSw
          obtain ⟨s1, ⟨s2, s3⟩, s4⟩ := hSw
          obtain ⟨x0, x1, x2, x3, x4, -⟩ := s1.c
          obtain ⟨y0, y1, y2, y3, y4, -⟩ := s2.c
          have e0 := cell_bel s4 G0.out
          have e1 := cell_bel s4 G1.out
          have e2 := cell_bel s4 G2.out
          have e3 := cell_bel s4 G3.out
          have e4 := cell_bel s4 G4.out
          go_simp
          all_goals with_reducible rfl
        simp only [Act.put, List.setIfInBounds_toArray, List.set_cons_zero, List.set_cons_succ]
        refine wpAnyT_ready (rs := [3, 12]) (by kernel_rfl) (by simp) ?_
        refine AllReadyT.cons (i := 3) (o := _) rfl (fun K hK => ?_) ?_
        · go_simp
          replace SOc := hidI (SOc.out.alloc HF.out (.cells #[.string ⟨t.keys[k].toArray⟩] 9))
          replace OEc := hidI (OEc.out.bel (bel_alloc _ (.cells #[.string ⟨t.keys[k].toArray⟩] 9)))
          replace hBc := Nat.le_trans hBc (bel_alloc _ (.cells #[.string ⟨t.keys[k].toArray⟩] 9)).size
          have NBK : Hid ((wr.alloc (.cells #[.string ⟨t.keys[k].toArray⟩] 9)).heap[wr.heap.size]? = some (.cells #[.string ⟨t.keys[k].toArray⟩] 9)) := hidI (heap_alloc_new _ _)
          refine hK.out _ _ (SOc.out.drew HF.out) (fun hHeld2 => ?_)
          clear hK K
          replace hHeld := hHeld2
          clear hHeld2
          try simp only [Act.put, List.setIfInBounds_toArray, List.set_cons_zero, List.set_cons_succ]
          refine wpAnyT_ready (rs := [4, 12]) (by kernel_rfl) (by simp) ?_
          refine AllReadyT.cons (i := 4) (o := _) rfl (fun K hK => ?_) ?_
          · have OEd := hidI OEc.out.drew
            have NBd : Hid (((wr.alloc (.cells #[.string ⟨t.keys[k].toArray⟩] 9)).drew).heap[wr.heap.size]? = some (.cells #[.string ⟨t.keys[k].toArray⟩] 9)) := hidI NBK.out
            refine step_run (by rfl) (.tmp 21) (.tmp 23) 22 (by rfl) _ _ rfl rfl _ (fun ty => OEd.out.key NBd.out hnk (by exact hBc) ty) (fun v9 W9 hR => ?_)
            obtain ⟨ho9, hg9, gK, cK, rfl⟩ := hR
            replace SOc := hidI (hHeld.grown HF.out hg9 (fun g e => (OEd.out.kown g e).1))
            refine hK.out _ _ SOc.out (fun hHeld2 => ?_)
            replace OEc := hidI ho9
            replace hBc := Nat.le_trans (by exact hBc) hg9.size
            clear ho9 hg9 OEd NBd
            clear hK K
            replace hHeld := hHeld2
            clear hHeld2
            try simp only [Act.put, List.setIfInBounds_toArray, List.set_cons_zero, List.set_cons_succ]
            refine wpAnyT_take (i := 14) (v := ?_) [15, 16, 17] (oi := _) rfl (by kernel_rfl) (by kernel_rfl) (by kernel_rfl) (by kernel_rfl) (fun _ _ _ h => h) (Or.inl ⟨by rfl, ?_⟩) hHeld ?_
            rotate_left
            · intro wS hSw
              go_simp
              all_goals with_reducible rfl
            simp only [Act.put, List.setIfInBounds_toArray, List.set_cons_zero, List.set_cons_succ]
            refine wpAnyT_ready (rs := [12]) (by kernel_rfl) (by simp) ?_
            refine AllReadyT.cons (i := 12) (o := _) rfl (fun K hK => ?_) ?_
            · go_simp
              replace SOc := hidI (SOc.out.alloc HF.out (.cells #[.int .i64 t.l[k].kind, .int .i64 t.l[k].n, .string ⟨t.l[k].s.toArray⟩, .slice a5 t.l[k].keys.length c5, .slice a6 t.l[k].l.length c6] 25))
              replace OEc := hidI (OEc.out.bel (bel_alloc _ (.cells #[.int .i64 t.l[k].kind, .int .i64 t.l[k].n, .string ⟨t.l[k].s.toArray⟩, .slice a5 t.l[k].keys.length c5, .slice a6 t.l[k].l.length c6] 25)))
              replace hBc := Nat.le_trans hBc (bel_alloc _ (.cells #[.int .i64 t.l[k].kind, .int .i64 t.l[k].n, .string ⟨t.l[k].s.toArray⟩, .slice a5 t.l[k].keys.length c5, .slice a6 t.l[k].l.length c6] 25)).size
              have NBV : Hid ((W9.alloc (.cells #[.int .i64 t.l[k].kind, .int .i64 t.l[k].n, .string ⟨t.l[k].s.toArray⟩, .slice a5 t.l[k].keys.length c5, .slice a6 t.l[k].l.length c6] 25)).heap[W9.heap.size]? = some (.cells #[.int .i64 t.l[k].kind, .int .i64 t.l[k].n, .string ⟨t.l[k].s.toArray⟩, .slice a5 t.l[k].keys.length c5, .slice a6 t.l[k].l.length c6] 25)) := hidI (heap_alloc_new _ _)
              refine hK.out _ _ (SOc.out) (fun hHeld2 => ?_)
              clear hK K
              replace hHeld := hHeld2
              clear hHeld2
              try simp only [Act.put, List.setIfInBounds_toArray, List.set_cons_zero, List.set_cons_succ]
              refine wpAnyT_ready (rs := [13]) (by kernel_rfl) (by simp) ?_
              refine AllReadyT.cons (i := 13) (o := _) rfl (fun K hK => ?_) ?_
              · have OEd := hidI OEc.out
                have HY2 := hidI (HY.out.bel OEd.out.below)
                have NBd := hidI NBV.out
                refine step_run (by rfl) (.tmp 26) (.tmp 32) 23 (by rfl) _ _ rfl rfl _ (fun ty => OEd.out.item NBd.out HY2.out hnl (by exact hBc) ty) (fun v9 W9 hR => ?_)
                obtain ⟨ho9, hg9, gV, cV, rfl⟩ := hR
                replace SOc := hidI (hHeld.grown HF.out hg9 (fun g e => (OEd.out.lown g e).1))
                refine hK.out _ _ SOc.out (fun hHeld2 => ?_)
                replace OEc := hidI ho9
                replace hBc := Nat.le_trans (by exact hBc) hg9.size
                clear ho9 hg9 OEd NBd
                clear hK K
                replace hHeld := hHeld2
                clear hHeld2
                try simp only [Act.put, List.setIfInBounds_toArray, List.set_cons_zero, List.set_cons_succ]
                obtain ⟨o0, o1, o2, o3, o4, f0, f1, f2, f3, f4⟩ := hHeld.1.c
                have HE := hidI hHeld
                clear hHeld
                refine wpAnyT_last (i := 15) (o := _) (by kernel_rfl) (by rfl) rfl (fun K hK => ?_)
                go_simp
                refine hK.out _ _ ?_
                clear hK K
                try simp only [Act.put, List.setIfInBounds_toArray, List.set_cons_zero, List.set_cons_succ]
                refine wpAnyT_last (i := 16) (o := _) (by kernel_rfl) (by rfl) rfl (fun K hK => ?_)
                go_simp
                refine hK.out _ _ ?_
                clear hK K
                try simp only [Act.put, List.setIfInBounds_toArray, List.set_cons_zero, List.set_cons_succ]
                refine wpAnyT_last (i := 17) (o := _) (by kernel_rfl) (by rfl) rfl (fun K hK => ?_)
                go_simp
                refine hK.out _ _ ?_
                clear hK K
                try simp only [Act.put, List.setIfInBounds_toArray, List.set_cons_zero, List.set_cons_succ]
                refine wpAnyT_done (by kernel_rfl) ?_ _
                go_wp2_with fail
                go_roundg (t.keys.length - (k + 1))
                case measure => rw [GK.out]; omega
                case rel => exact ⟨k + 1, hlt, rfl, by go_num, wo_more HL.out hlt hlt' HNE.out HPS.out HE.out (by have h9 := OEc.out; simp only [List.length_map] at h9; exact h9)⟩
              exact AllReadyT.nil
            exact AllReadyT.nil
          refine AllReadyT.cons (i := 12) (o := _) rfl (fun K hK => ?_) ?_
          · go_simp
            replace SOc := hidI (SOc.out.alloc HF.out (.cells #[.int .i64 t.l[k].kind, .int .i64 t.l[k].n, .string ⟨t.l[k].s.toArray⟩, .slice a5 t.l[k].keys.length c5, .slice a6 t.l[k].l.length c6] 25))
            replace OEc := hidI (OEc.out.bel (bel_alloc _ (.cells #[.int .i64 t.l[k].kind, .int .i64 t.l[k].n, .string ⟨t.l[k].s.toArray⟩, .slice a5 t.l[k].keys.length c5, .slice a6 t.l[k].l.length c6] 25)))
            replace hBc := Nat.le_trans hBc (bel_alloc _ (.cells #[.int .i64 t.l[k].kind, .int .i64 t.l[k].n, .string ⟨t.l[k].s.toArray⟩, .slice a5 t.l[k].keys.length c5, .slice a6 t.l[k].l.length c6] 25)).size
            clear NBK
            have NBK : Hid (((wr.alloc (.cells #[.string ⟨t.keys[k].toArray⟩] 9)).alloc (.cells #[.int .i64 t.l[k].kind, .int .i64 t.l[k].n, .string ⟨t.l[k].s.toArray⟩, .slice a5 t.l[k].keys.length c5, .slice a6 t.l[k].l.length c6] 25)).heap[wr.heap.size]? = some (.cells #[.string ⟨t.keys[k].toArray⟩] 9)) := hidI (h2a _ _ _)
            have NBV : Hid (((wr.alloc (.cells #[.string ⟨t.keys[k].toArray⟩] 9)).alloc (.cells #[.int .i64 t.l[k].kind, .int .i64 t.l[k].n, .string ⟨t.l[k].s.toArray⟩, .slice a5 t.l[k].keys.length c5, .slice a6 t.l[k].l.length c6] 25)).heap[wr.heap.size + 1]? = some (.cells #[.int .i64 t.l[k].kind, .int .i64 t.l[k].n, .string ⟨t.l[k].s.toArray⟩, .slice a5 t.l[k].keys.length c5, .slice a6 t.l[k].l.length c6] 25)) := hidI (h2b _ _ _)
            refine hK.out _ _ (SOc.out.drew HF.out) (fun hHeld2 => ?_)
            clear hK K
            replace hHeld := hHeld2
            clear hHeld2
            try simp only [Act.put, List.setIfInBounds_toArray, List.set_cons_zero, List.set_cons_succ]
            refine wpAnyT_ready (rs := [4]) (by kernel_rfl) (by simp) ?_
            refine AllReadyT.cons (i := 4) (o := _) rfl (fun K hK => ?_) ?_
            · have OEd := hidI OEc.out.drew
              have NBd : Hid ((((wr.alloc (.cells #[.string ⟨t.keys[k].toArray⟩] 9)).alloc (.cells #[.int .i64 t.l[k].kind, .int .i64 t.l[k].n, .string ⟨t.l[k].s.toArray⟩, .slice a5 t.l[k].keys.length c5, .slice a6 t.l[k].l.length c6] 25)).drew).heap[wr.heap.size]? = some (.cells #[.string ⟨t.keys[k].toArray⟩] 9)) := hidI NBK.out
              refine step_run (by rfl) (.tmp 21) (.tmp 23) 22 (by rfl) _ _ rfl rfl _ (fun ty => OEd.out.key NBd.out hnk (by exact hBc) ty) (fun v9 W9 hR => ?_)
              obtain ⟨ho9, hg9, gK, cK, rfl⟩ := hR
              replace SOc := hidI (hHeld.grown HF.out hg9 (fun g e => (OEd.out.kown g e).1))
              refine hK.out _ _ SOc.out (fun hHeld2 => ?_)
              replace NBV := hidI (nb_grown ((by exact NBV.out : (((wr.alloc (.cells #[.string ⟨t.keys[k].toArray⟩] 9)).alloc (.cells #[.int .i64 t.l[k].kind, .int .i64 t.l[k].n, .string ⟨t.l[k].s.toArray⟩, .slice a5 t.l[k].keys.length c5, .slice a6 t.l[k].l.length c6] 25)).drew).heap[wr.heap.size + 1]? = some (.cells #[.int .i64 t.l[k].kind, .int .i64 t.l[k].n, .string ⟨t.l[k].s.toArray⟩, .slice a5 t.l[k].keys.length c5, .slice a6 t.l[k].l.length c6] 25))) hg9 (fun e => by have := LK.out _ e.symm; omega))
              replace OEc := hidI ho9
              replace hBc := Nat.le_trans (by exact hBc) hg9.size
              clear ho9 hg9 OEd NBd
              clear hK K
              replace hHeld := hHeld2
              clear hHeld2
              try simp only [Act.put, List.setIfInBounds_toArray, List.set_cons_zero, List.set_cons_succ]
              refine wpAnyT_take (i := 14) (v := ?_) [15, 16, 17] (oi := _) rfl (by kernel_rfl) (by kernel_rfl) (by kernel_rfl) (by kernel_rfl) (fun _ _ _ h => h) (Or.inl ⟨by rfl, ?_⟩) hHeld ?_
              rotate_left
              · intro wS hSw
                go_simp
                all_goals with_reducible rfl
              simp only [Act.put, List.setIfInBounds_toArray, List.set_cons_zero, List.set_cons_succ]
              refine wpAnyT_ready (rs := [13]) (by kernel_rfl) (by simp) ?_
              refine AllReadyT.cons (i := 13) (o := _) rfl (fun K hK => ?_) ?_
              · have OEd := hidI OEc.out
                have HY2 := hidI (HY.out.bel OEd.out.below)
                have NBd := hidI NBV.out
                refine step_run (by rfl) (.tmp 26) (.tmp 32) 23 (by rfl) _ _ rfl rfl _ (fun ty => OEd.out.item NBd.out HY2.out hnl (by exact hBc) ty) (fun v9 W9 hR => ?_)
                obtain ⟨ho9, hg9, gV, cV, rfl⟩ := hR
                replace SOc := hidI (hHeld.grown HF.out hg9 (fun g e => (OEd.out.lown g e).1))
                refine hK.out _ _ SOc.out (fun hHeld2 => ?_)
                replace OEc := hidI ho9
                replace hBc := Nat.le_trans (by exact hBc) hg9.size
                clear ho9 hg9 OEd NBd
                clear hK K
                replace hHeld := hHeld2
                clear hHeld2
                try simp only [Act.put, List.setIfInBounds_toArray, List.set_cons_zero, List.set_cons_succ]
                obtain ⟨o0, o1, o2, o3, o4, f0, f1, f2, f3, f4⟩ := hHeld.1.c
                have HE := hidI hHeld
                clear hHeld
                refine wpAnyT_last (i := 15) (o := _) (by kernel_rfl) (by rfl) rfl (fun K hK => ?_)
                go_simp
                refine hK.out _ _ ?_
                clear hK K
                try simp only [Act.put, List.setIfInBounds_toArray, List.set_cons_zero, List.set_cons_succ]
                refine wpAnyT_last (i := 16) (o := _) (by kernel_rfl) (by rfl) rfl (fun K hK => ?_)
                go_simp
                refine hK.out _ _ ?_
                clear hK K
                try simp only [Act.put, List.setIfInBounds_toArray, List.set_cons_zero, List.set_cons_succ]
                refine wpAnyT_last (i := 17) (o := _) (by kernel_rfl) (by rfl) rfl (fun K hK => ?_)
                go_simp
                refine hK.out _ _ ?_
                clear hK K
                try simp only [Act.put, List.setIfInBounds_toArray, List.set_cons_zero, List.set_cons_succ]
                refine wpAnyT_done (by kernel_rfl) ?_ _
                go_wp2_with fail
                go_roundg (t.keys.length - (k + 1))
                case measure => rw [GK.out]; omega
                case rel => exact ⟨k + 1, hlt, rfl, by go_num, wo_more HL.out hlt hlt' HNE.out HPS.out HE.out (by have h9 := OEc.out; simp only [List.length_map] at h9; exact h9)⟩
              exact AllReadyT.nil
            exact AllReadyT.nil
          exact AllReadyT.nil
        refine AllReadyT.cons (i := 12) (o := _) rfl (fun K hK => ?_) ?_
        · go_simp
          replace SOc := hidI (SOc.out.alloc HF.out (.cells #[.int .i64 t.l[k].kind, .int .i64 t.l[k].n, .string ⟨t.l[k].s.toArray⟩, .slice a5 t.l[k].keys.length c5, .slice a6 t.l[k].l.length c6] 25))
          replace OEc := hidI (OEc.out.bel (bel_alloc _ (.cells #[.int .i64 t.l[k].kind, .int .i64 t.l[k].n, .string ⟨t.l[k].s.toArray⟩, .slice a5 t.l[k].keys.length c5, .slice a6 t.l[k].l.length c6] 25)))
          replace hBc := Nat.le_trans hBc (bel_alloc _ (.cells #[.int .i64 t.l[k].kind, .int .i64 t.l[k].n, .string ⟨t.l[k].s.toArray⟩, .slice a5 t.l[k].keys.length c5, .slice a6 t.l[k].l.length c6] 25)).size
          have NBV : Hid ((wr.alloc (.cells #[.int .i64 t.l[k].kind, .int .i64 t.l[k].n, .string ⟨t.l[k].s.toArray⟩, .slice a5 t.l[k].keys.length c5, .slice a6 t.l[k].l.length c6] 25)).heap[wr.heap.size]? = some (.cells #[.int .i64 t.l[k].kind, .int .i64 t.l[k].n, .string ⟨t.l[k].s.toArray⟩, .slice a5 t.l[k].keys.length c5, .slice a6 t.l[k].l.length c6] 25)) := hidI (heap_alloc_new _ _)
          refine hK.out _ _ (SOc.out.drew HF.out) (fun hHeld2 => ?_)
          clear hK K
          replace hHeld := hHeld2
          clear hHeld2
          try simp only [Act.put, List.setIfInBounds_toArray, List.set_cons_zero, List.set_cons_succ]
          refine wpAnyT_ready (rs := [3]) (by kernel_rfl) (by simp) ?_
          refine AllReadyT.cons (i := 3) (o := _) rfl (fun K hK => ?_) ?_
          · go_simp
            replace SOc := hidI (SOc.out.alloc HF.out (.cells #[.string ⟨t.keys[k].toArray⟩] 9))
            replace OEc := hidI (OEc.out.bel (bel_alloc _ (.cells #[.string ⟨t.keys[k].toArray⟩] 9)))
            replace hBc := Nat.le_trans hBc (bel_alloc _ (.cells #[.string ⟨t.keys[k].toArray⟩] 9)).size
            clear NBV
            have NBV : Hid (((wr.alloc (.cells #[.int .i64 t.l[k].kind, .int .i64 t.l[k].n, .string ⟨t.l[k].s.toArray⟩, .slice a5 t.l[k].keys.length c5, .slice a6 t.l[k].l.length c6] 25)).alloc (.cells #[.string ⟨t.keys[k].toArray⟩] 9)).heap[wr.heap.size]? = some (.cells #[.int .i64 t.l[k].kind, .int .i64 t.l[k].n, .string ⟨t.l[k].s.toArray⟩, .slice a5 t.l[k].keys.length c5, .slice a6 t.l[k].l.length c6] 25)) := hidI (h2a _ _ _)
            have NBK : Hid (((wr.alloc (.cells #[.int .i64 t.l[k].kind, .int .i64 t.l[k].n, .string ⟨t.l[k].s.toArray⟩, .slice a5 t.l[k].keys.length c5, .slice a6 t.l[k].l.length c6] 25)).alloc (.cells #[.string ⟨t.keys[k].toArray⟩] 9)).heap[wr.heap.size + 1]? = some (.cells #[.string ⟨t.keys[k].toArray⟩] 9)) := hidI (h2b _ _ _)
            refine hK.out _ _ (SOc.out.drew HF.out) (fun hHeld2 => ?_)
            clear hK K
            replace hHeld := hHeld2
            clear hHeld2
            try simp only [Act.put, List.setIfInBounds_toArray, List.set_cons_zero, List.set_cons_succ]
            refine wpAnyT_ready (rs := [4]) (by kernel_rfl) (by simp) ?_
            refine AllReadyT.cons (i := 4) (o := _) rfl (fun K hK => ?_) ?_
            · have OEd := hidI OEc.out.drew
              have NBd : Hid ((((wr.alloc (.cells #[.int .i64 t.l[k].kind, .int .i64 t.l[k].n, .string ⟨t.l[k].s.toArray⟩, .slice a5 t.l[k].keys.length c5, .slice a6 t.l[k].l.length c6] 25)).alloc (.cells #[.string ⟨t.keys[k].toArray⟩] 9)).drew).heap[wr.heap.size + 1]? = some (.cells #[.string ⟨t.keys[k].toArray⟩] 9)) := hidI NBK.out
              refine step_run (by rfl) (.tmp 21) (.tmp 23) 22 (by rfl) _ _ rfl rfl _ (fun ty => OEd.out.key NBd.out hnk (by exact hBc) ty) (fun v9 W9 hR => ?_)
              obtain ⟨ho9, hg9, gK, cK, rfl⟩ := hR
              replace SOc := hidI (hHeld.grown HF.out hg9 (fun g e => (OEd.out.kown g e).1))
              refine hK.out _ _ SOc.out (fun hHeld2 => ?_)
              replace NBV := hidI (nb_grown ((by exact NBV.out : (((wr.alloc (.cells #[.int .i64 t.l[k].kind, .int .i64 t.l[k].n, .string ⟨t.l[k].s.toArray⟩, .slice a5 t.l[k].keys.length c5, .slice a6 t.l[k].l.length c6] 25)).alloc (.cells #[.string ⟨t.keys[k].toArray⟩] 9)).drew).heap[wr.heap.size]? = some (.cells #[.int .i64 t.l[k].kind, .int .i64 t.l[k].n, .string ⟨t.l[k].s.toArray⟩, .slice a5 t.l[k].keys.length c5, .slice a6 t.l[k].l.length c6] 25))) hg9 (fun e => by have := LK.out _ e.symm; omega))
              replace OEc := hidI ho9
              replace hBc := Nat.le_trans (by exact hBc) hg9.size
              clear ho9 hg9 OEd NBd
              clear hK K
              replace hHeld := hHeld2
              clear hHeld2
              try simp only [Act.put, List.setIfInBounds_toArray, List.set_cons_zero, List.set_cons_succ]
              refine wpAnyT_take (i := 14) (v := ?_) [15, 16, 17] (oi := _) rfl (by kernel_rfl) (by kernel_rfl) (by kernel_rfl) (by kernel_rfl) (fun _ _ _ h => h) (Or.inl ⟨by rfl, ?_⟩) hHeld ?_
              rotate_left
              · intro wS hSw
                go_simp
                all_goals with_reducible rfl
              simp only [Act.put, List.setIfInBounds_toArray, List.set_cons_zero, List.set_cons_succ]
              refine wpAnyT_ready (rs := [13]) (by kernel_rfl) (by simp) ?_
              refine AllReadyT.cons (i := 13) (o := _) rfl (fun K hK => ?_) ?_
              · have OEd := hidI OEc.out
                have HY2 := hidI (HY.out.bel OEd.out.below)
                have NBd := hidI NBV.out
                refine step_run (by rfl) (.tmp 26) (.tmp 32) 23 (by rfl) _ _ rfl rfl _ (fun ty => OEd.out.item NBd.out HY2.out hnl (by exact hBc) ty) (fun v9 W9 hR => ?_)
                obtain ⟨ho9, hg9, gV, cV, rfl⟩ := hR
                replace SOc := hidI (hHeld.grown HF.out hg9 (fun g e => (OEd.out.lown g e).1))
                refine hK.out _ _ SOc.out (fun hHeld2 => ?_)
                replace OEc := hidI ho9
                replace hBc := Nat.le_trans (by exact hBc) hg9.size
                clear ho9 hg9 OEd NBd
                clear hK K
                replace hHeld := hHeld2
                clear hHeld2
                try simp only [Act.put, List.setIfInBounds_toArray, List.set_cons_zero, List.set_cons_succ]
                obtain ⟨o0, o1, o2, o3, o4, f0, f1, f2, f3, f4⟩ := hHeld.1.c
                have HE := hidI hHeld
                clear hHeld
                refine wpAnyT_last (i := 15) (o := _) (by kernel_rfl) (by rfl) rfl (fun K hK => ?_)
                go_simp
                refine hK.out _ _ ?_
                clear hK K
                try simp only [Act.put, List.setIfInBounds_toArray, List.set_cons_zero, List.set_cons_succ]
                refine wpAnyT_last (i := 16) (o := _) (by kernel_rfl) (by rfl) rfl (fun K hK => ?_)
                go_simp
                refine hK.out _ _ ?_
                clear hK K
                try simp only [Act.put, List.setIfInBounds_toArray, List.set_cons_zero, List.set_cons_succ]
                refine wpAnyT_last (i := 17) (o := _) (by kernel_rfl) (by rfl) rfl (fun K hK => ?_)
                go_simp
                refine hK.out _ _ ?_
                clear hK K
                try simp only [Act.put, List.setIfInBounds_toArray, List.set_cons_zero, List.set_cons_succ]
                refine wpAnyT_done (by kernel_rfl) ?_ _
                go_wp2_with fail
                go_roundg (t.keys.length - (k + 1))
                case measure => rw [GK.out]; omega
                case rel => exact ⟨k + 1, hlt, rfl, by go_num, wo_more HL.out hlt hlt' HNE.out HPS.out HE.out (by have h9 := OEc.out; simp only [List.length_map] at h9; exact h9)⟩
              exact AllReadyT.nil
            exact AllReadyT.nil
          exact AllReadyT.nil
        exact AllReadyT.nil
    · have hke : k = t.keys.length := by omega
      subst hke
      have d1 : ¬ (t.keys.length : Int) < (t.keys.length : Int) := by omega
      obtain ⟨ps, kv, lv, i1, i2, i3, i4⟩ := II.out
      have i5 : ps = woF key (t.keys.zip t.l) := by
        rw [← i3, List.drop_eq_nil_of_le (by simp; omega)]; simp [woF]
      have hpl : ps.length ≤ 100000 := by
        have h1 : (woF key (t.keys.zip t.l)).length ≤ (t.keys.zip t.l).length := List.length_filter_le _ _
        rw [i5]; simp at h1; omega
      have hmk : ∀ x ∈ ps.map Prod.fst, x.length ≤ maxLen := by
        intro x hx
        rw [List.mem_map] at hx
        obtain ⟨p, hp, rfl⟩ := hx
        rw [i5] at hp
        have := (List.of_mem_zip (List.mem_filter.1 hp).1).1
        exact VV.out.2.mem _ this
      have M := hidI (i2.made hmk (by rw [List.length_map]; omega) (by rw [List.length_map]; omega))
      have E : Hid ((⟨5, 0, [], ps.map Prod.fst, ps.map Prod.snd⟩ : V) = withoutV t key) := hidI (by rw [i5]; exact wo_without OB.out key)
      have gs := set5_gb wr (w.heap.size + 1) (.int .i64 5) (.int .i64 0) (.string ⟨#[]⟩) kv lv
      have ZB : Hid _ := hidI (i1.2.1.2.set (.int .i64 5) (.int .i64 0) (.string ⟨#[]⟩) kv lv)
      have Z : Hid (VIs (set5 wr (w.heap.size + 1) (.int .i64 5) (.int .i64 0) (.string ⟨#[]⟩) kv lv) (okN ok w.heap.size) (d + 1) (withoutV t key) (.agg #[.int .i64 5, .int .i64 0, .string ⟨#[]⟩, kv, lv]) ∧ Below w.heap.size w (set5 wr (w.heap.size + 1) (.int .i64 5) (.int .i64 0) (.string ⟨#[]⟩) kv lv)) := hidI (by
        have hs : OE w ok (w.heap.size + 2 + 1) d (ps.map Prod.fst) (ps.map Prod.snd) kv lv (set5 wr (w.heap.size + 1) (.int .i64 5) (.int .i64 0) (.string ⟨#[]⟩) kv lv) := ((((i2.set (by omega) (by omega) _ _).set (by omega) (by omega) _ _).set (by omega) (by omega) _ _).set (by omega) (by omega) _ _).set (by omega) (by omega) _ _
        refine ⟨?_, hs.below⟩
        rw [← E.out]
        exact hs.made hmk (by rw [List.length_map]; omega) (by rw [List.length_map]; omega))
      obtain ⟨n1, n2, n3, n4, hk1, hk2⟩ := i2.forms
      rw [List.length_map] at hk1 hk2
      subst hk1
      subst hk2
      obtain ⟨o0, o1, o2, o3, o4, -⟩ := i1.1.c
      obtain ⟨z0, z1, z2, z3, z4, z5, z6, z7, z8, z9⟩ := i1.2.1.2.c
      clear gs i1 i2 i3 i4 i5 hpl hmk
      go_wp2_with fail
      obtain ⟨q0, q1, q2, q3, q4, -⟩ := ZB.out.c
      refine bodyPost_ret (v := .agg #[.int .i64 5, .int .i64 0, .string ⟨#[]⟩, .slice n1 ps.length n2, .slice n3 ps.length n4]) ?_ rfl ?_
      · simp only [set5] at q0 q1 q2 q3 q4
        simp [results, Tryd.results55, go_sem, q0, q1, q2, q3, q4]
      · exact ⟨_, rfl, Z.out.1, Z.out.2⟩
theorem rwithout_is (w : World) (ok : Nat → Prop) (t : V) (v : Value) (key : List UInt8) (h : In w ok t v) (ho : Ob t) (hl : t.l.length ≤ 100000) :
    Calls Tryd.prog 55 #[v, str key] w fun e w' => ∃ r, e = .returned r ∧ In w' (okN ok w.heap.size) (withoutV t key) r ∧ Below w.heap.size w w' := by
  obtain ⟨d, h⟩ := h.at
  refine (rwithout_at w ok d t v key h ho hl).mono ?_
  rintro e w' ⟨r, rfl, hr, hb⟩
  exact ⟨r, rfl, hr.is, hb⟩
end Go.Proofs.YtaifciobaapehaaDoor

/- A region that draws its order: what yields its value in whatever world is taken first, whatever waits. -/
set_option linter.unusedSimpArgs false
set_option linter.unusedVariables false
namespace Go.Proofs.YtaifciobaapehaaDoor
open Go

section
variable {P : Program} {ops : Array Oper} {Q : Exit → Act → World → Prop} {md : Region.Mode} {S : World → Prop} {T : List Nat}

theorem until_mono {listed : Array Bool} {i : Nat} {T : List Nat} (h : untilB T (listed.setIfInBounds i true) = true) : untilB T listed = true := by
  unfold untilB at h ⊢
  rw [List.all_eq_true] at h ⊢
  intro t ht
  have h0 := h t ht
  by_cases e : i = t
  · subst e
    by_cases hs : i < listed.size
    · simp [Array.getD, hs] at h0
    · simp [Array.getD, hs] at h0
  · rw [getD_set_ne true e] at h0; exact h0
theorem until_set {listed : Array Bool} {i : Nat} {T : List Nat} (hi : i ∉ T) (h : untilB T listed = true) : untilB T (listed.setIfInBounds i true) = true := by
  unfold untilB at h ⊢
  rw [List.all_eq_true] at h ⊢
  intro t ht
  have e : i ≠ t := fun e => hi (e ▸ ht)
  rw [getD_set_ne true e]; exact h t ht
/- What yields its value in whatever world is taken first whatever waits. -/
theorem wpAnyT_firstY {i : Nat} {oi : Oper} {v : Value} (hi : ops[i]? = some oi) (hsel : ∀ (j : Nat) (o : Oper) cs b, ops[j]? = some o → o.op ≠ .select cs b)
    (hQ : ∀ c a w, Q (.panic c) (a.put oi.dst v) w → Q (.panic c) a w) (hiT : i ∉ T) :
    ∀ (fuel : Nat) (listed : Array Bool) (a : Act) (w : World),
      (∀ j oj, ops[j]? = some oj → j ≠ i → listed.getD j true = false → (∀ e ∈ oj.after, Region.binds md e = true → e.on ≠ i) → oi.apart ops oj = true) →
      i ∈ Region.ready md ops listed → Yields P ops oi v a → (untilB T listed = true → S w) →
      wpAnyT P md ops Q S T fuel (listed.setIfInBounds i true) (a.put oi.dst v) w → wpAnyT P md ops Q S T (fuel + 1) listed a w := by
  intro fuel
  induction fuel with
  | zero =>
    intro listed a w _ hr hy hS H
    refine ⟨fun h => (by rw [h] at hr; cases hr), fun j hj => ?_⟩
    by_cases hji : j = i
    · subst hji; exact hy.wpOp hi ⟨fun h => hS (until_mono h), H⟩
    · have := ready_mono hj hji
      rw [H.1] at this
      cases this
  | succ fuel ih =>
    intro listed a w hfree hr hy hS H
    refine ⟨fun h => (by rw [h] at hr; cases hr), fun j hj => ?_⟩
    by_cases hji : j = i
    · subst hji; exact hy.wpOp hi ⟨fun h => hS (until_mono h), H⟩
    · have h1 := H.2 j (ready_mono hj hji)
      obtain ⟨hjun, oj, hoj, hall⟩ := mem_ready.1 hj
      have hnot : ∀ e ∈ oj.after, Region.binds md e = true → e.on ≠ i := fun e he hb heq => by
        have h1 := hall e he hb
        have h0 := (mem_ready.1 hr).1
        rw [heq] at h1
        rcases Nat.lt_or_ge i listed.size with h' | h'
        · simp [h'] at h0 h1; rw [h0] at h1; cases h1
        · simp [Array.getElem?_eq_none h'] at h1
      have h2 := wpOp_put hoj (hfree j oj hoj hji hjun hnot) (fun cs b => hsel i oi cs b hi) (fun cs b => hsel j oj cs b hoj) hQ hy h1
      have hfree' : ∀ k ok, ops[k]? = some ok → k ≠ i → (listed.setIfInBounds j true).getD k true = false →
          (∀ e ∈ ok.after, Region.binds md e = true → e.on ≠ i) → oi.apart ops ok = true := fun k ok hk hki hun hno => by
        refine hfree k ok hk hki ?_ hno
        by_cases hjk : j = k
        · subst hjk; exact hjun
        · rw [getD_set_ne true hjk] at hun; exact hun
      refine wpOp_mono (fun a' w' h3 => ?_) h2
      have hs : untilB T (listed.setIfInBounds j true) = true → S w' := fun h => h3.2.1 (by rw [Array.setIfInBounds_comm _ _ (Ne.symm hji)]; exact until_set hiT h)
      refine ⟨hs, ih (listed.setIfInBounds j true) a' w' hfree' (ready_mono hr (Ne.symm hji)) h3.1 hs ?_⟩
      rw [Array.setIfInBounds_comm _ _ hji]
      exact h3.2.2
theorem wpAnyT_takeY {i : Nat} {oi : Oper} {v : Value} {fuel : Nat} {listed : Array Bool} {a : Act} {w : World} (hi : ops[i]? = some oi)
    (hs : Region.noSelect ops = true) (hf : Region.free md ops listed i = true) (hr : (Region.ready md ops listed).contains i = true) (hT : T.contains i = false)
    (hQ : ∀ c a w, Q (.panic c) (a.put oi.dst v) w → Q (.panic c) a w) (hy : Yields P ops oi v a) (hS : S w)
    (h : wpAnyT P md ops Q S T fuel (listed.setIfInBounds i true) (a.put oi.dst v) w) : wpAnyT P md ops Q S T (fuel + 1) listed a w :=
  wpAnyT_firstY hi (Region.noSelect_spec hs) hQ (by simpa using hT) fuel listed a w (Region.free_spec hi hf) (by simpa using hr) hy (fun _ => hS) h
end
end Go.Proofs.YtaifciobaapehaaDoor

/- What alter of package stairwellref does at the end of a path. -/
set_option linter.unusedSimpArgs false
set_option linter.unusedVariables false
namespace Go.Proofs.YtaifciobaapehaaDoor
open Go.RowKit

/- The boxes of alter. -/
def KA (w : World) (t x : V) (a1 a2 a7 a8 : Option Addr) (c1 c2 c7 c8 : Nat) (W : World) : Prop := BoxIs W w.heap.size (.int .i64 t.kind) (.int .i64 t.n) (.string ⟨t.s.toArray⟩) (.slice a1 t.keys.length c1) (.slice a2 t.l.length c2) ∧ BoxIs W (w.heap.size + 1) (.int .i64 x.kind) (.int .i64 x.n) (.string ⟨x.s.toArray⟩) (.slice a7 x.keys.length c7) (.slice a8 x.l.length c8) ∧ BoxIs W (w.heap.size + 2) (.int .i64 0) (.int .i64 0) (.string ⟨#[]⟩) (.slice none 0 0) (.slice none 0 0) ∧ Below w.heap.size w W
theorem KA.bel {w W W' : World} {t x : V} {a1 a2 a7 a8 : Option Addr} {c1 c2 c7 c8 : Nat} (h : KA w t x a1 a2 a7 a8 c1 c2 c7 c8 W) (hb : Below W.heap.size W W') : KA w t x a1 a2 a7 a8 c1 c2 c7 c8 W' := ⟨box_bel hb h.1, box_bel hb h.2.1, box_bel hb h.2.2.1, bel_trans h.2.2.2 hb⟩
theorem KA.big {w W : World} {t x : V} {a1 a2 a7 a8 : Option Addr} {c1 c2 c7 c8 : Nat} (h : KA w t x a1 a2 a7 a8 c1 c2 c7 c8 W) : w.heap.size + 2 < W.heap.size := h.2.2.1.lt
theorem KA.grown {w W W' : World} {t x : V} {a1 a2 a7 a8 : Option Addr} {c1 c2 c7 c8 : Nat} {r : Option Nat} (h : KA w t x a1 a2 a7 a8 c1 c2 c7 c8 W) (hg : W.grownBy W' r) (hr : ∀ k, r = some k → w.heap.size + 3 ≤ k) : KA w t x a1 a2 a7 a8 c1 c2 c7 c8 W' := by
  have hbig := h.big
  refine ⟨h.1.grown hg (fun e => by have := hr _ e.symm; omega), h.2.1.grown hg (fun e => by have := hr _ e.symm; omega), h.2.2.1.grown hg (fun e => by have := hr _ e.symm; omega), ?_⟩
  have hb := h.2.2.2
  exact ⟨hg.os.trans hb.os, hg.tape.trans hb.tape, hg.output.trans hb.output, Nat.le_trans hb.size hg.size, fun j hj => (hg.block j (by omega) (fun e => by have := hr _ e.symm; omega)).trans (hb.block j hj)⟩
/- What a call answered, put into the result's box. -/
theorem put_out {w w1 w9 : World} {ok : Nat → Prop} {t x z : V} {a1 a2 a7 a8 b7 b8 : Option Addr} {c1 c2 c7 c8 d7 d8 C : Nat} (h : KA w t x a1 a2 a7 a8 c1 c2 c7 c8 w9) (hy : In w9 (okN (lowN ok w.heap.size C) w1.heap.size) z (.agg #[.int .i64 z.kind, .int .i64 z.n, .string ⟨z.s.toArray⟩, .slice b7 z.keys.length d7, .slice b8 z.l.length d8])) (hC : w.heap.size + 2 < C) (h1 : w.heap.size + 2 < w1.heap.size) :
    Below w.heap.size w (set5 w9 (w.heap.size + 2) (.int .i64 z.kind) (.int .i64 z.n) (.string ⟨z.s.toArray⟩) (.slice b7 z.keys.length d7) (.slice b8 z.l.length d8)) ∧ In (set5 w9 (w.heap.size + 2) (.int .i64 z.kind) (.int .i64 z.n) (.string ⟨z.s.toArray⟩) (.slice b7 z.keys.length d7) (.slice b8 z.l.length d8)) (okN ok w.heap.size) z (.agg #[.int .i64 z.kind, .int .i64 z.n, .string ⟨z.s.toArray⟩, .slice b7 z.keys.length d7, .slice b8 z.l.length d8]) ∧ BoxIs (set5 w9 (w.heap.size + 2) (.int .i64 z.kind) (.int .i64 z.n) (.string ⟨z.s.toArray⟩) (.slice b7 z.keys.length d7) (.slice b8 z.l.length d8)) (w.heap.size + 2) (.int .i64 z.kind) (.int .i64 z.n) (.string ⟨z.s.toArray⟩) (.slice b7 z.keys.length d7) (.slice b8 z.l.length d8) := by
  have g1 := set5_gb w9 (w.heap.size + 2) (.int .i64 z.kind) (.int .i64 z.n) (.string ⟨z.s.toArray⟩) (.slice b7 z.keys.length d7) (.slice b8 z.l.length d8)
  refine ⟨bel_set5 h.2.2.2 (by omega) _ _ _ _ _, (hy.grown g1 ?_).weak ?_, h.2.2.1.set _ _ _ _ _⟩
  · intro k hk e
    rcases hk with hk | hk
    · exact lowN_ne (by omega) (by omega) k hk e
    · omega
  · intro k hk
    rcases hk with hk | hk
    · exact lowN_out (by omega) k hk
    · exact .inr (by omega)
attribute [local go_sem ↓] Go.wp_at_zero Go.wp_at_succ
set_option maxRecDepth 100000 in
set_option maxHeartbeats 40000000 in
theorem alter1_other (w : World) (ok oks : Nat → Prop) (t x : V) (v xv nv : Value) (s : List UInt8) (h : In w ok t v) (hx : In w ok x xv) (hn : Nice t) (hnv : StrsAre w oks [s] nv) (h5 : t.kind ≠ 5) (h4 : t.kind ≠ 4) :
    Calls Tryd.prog 31 #[.int .i64 1, v, nv, xv] w fun e w' => ∃ r, e = .returned (.tuple #[r, .int .i64 3]) ∧ Below w.heap.size w w' ∧ In w' (okN ok w.heap.size) (t) r := by
  obtain ⟨nb, no, nc, rfl, n1, n2, n3, n4⟩ := strs_head hnv
  simp only [List.length_nil, Nat.zero_add] at n1 ⊢
  have H := hidI h.low
  have HX := hidI hx.low
  have HN := hidI hn
  obtain ⟨l1, l2, l3⟩ := h.lens
  obtain ⟨a1, a2, c1, c2, rfl⟩ := h.form
  obtain ⟨a7, a8, c7, c8, rfl⟩ := hx.form
  have hsz := nice_len hn
  have g0 : ∀ o1 o2 o3, (((w.alloc o1).alloc o2).alloc o3).cell? ⟨nb, no, none⟩ = some (.string ⟨s.toArray⟩) := fun o1 o2 o3 => cell_bel (bel_trans (bel_trans (bel_alloc _ _) (bel_alloc _ _)) (bel_alloc _ o3)) n4
  have con1 : Hid (∀ W, W.heap = (((w.alloc (.cells #[.int .i64 t.kind, .int .i64 t.n, .string ⟨t.s.toArray⟩, .slice a1 t.keys.length c1, .slice a2 t.l.length c2] 25)).alloc (.cells #[.int .i64 x.kind, .int .i64 x.n, .string ⟨x.s.toArray⟩, .slice a7 x.keys.length c7, .slice a8 x.l.length c8] 25)).alloc (.cells #[.int .i64 0, .int .i64 0, .string ⟨#[]⟩, .slice none 0 0, .slice none 0 0] 25)).heap → W.os = w.os → W.tape = w.tape → W.output = w.output → Calls Tryd.prog 28 #[.agg #[.int .i64 t.kind, .int .i64 t.n, .string ⟨t.s.toArray⟩, .slice a1 t.keys.length c1, .slice a2 t.l.length c2], .string ⟨s.toArray⟩] W fun e w' => e = .returned (.int .i64 (optI (atV t s))) ∧ KA w t x a1 a2 a7 a8 c1 c2 c7 c8 w') := by
    intro W e1 e2 e3 e4
    have hbW := bel_of3 e1 e2 e3 e4
    refine (rkid_is W (fun k => ok k ∧ k < w.heap.size) t _ s (H.out.bel hbW) (fun h5 => by have := nice_paired HN.out h5; simp only [pairedV, Bool.and_eq_true, decide_eq_true_eq] at this; omega)).mono ?_
    rintro e w1 ⟨rfl, hb1⟩
    exact ⟨rfl, box_bel hb1 (by unfold BoxIs; rw [e1]; exact h3a w _ _ _), box_bel hb1 (by unfold BoxIs; rw [e1]; exact h3b w _ _ _), box_bel hb1 (by unfold BoxIs; rw [e1]; exact h3c w _ _ _), bel_trans hbW hb1⟩
  have N4 := hidI n4
  have qa : (t.kind == 5) = false := by simp [h5]
  have qb : (t.kind == 4) = false := by simp [h4]
  clear h hx hn n4 hnv
  have e11 : ¬ (1 : Int) < 1 := by omega
  go_enter Tryd.func31, Tryd.ntmps31
  go_upto_region 1 with fail
  go_cut [10] (fun p wc => p = .int .i64 (optI (atV t s)) ∧ KA w t x a1 a2 a7 a8 c1 c2 c7 c8 wc)
  case first =>
    go_region_with ((go_at_call 28; refine (con1.out _ (by rfl) (by rfl) (by rfl) (by rfl)).mono ?_; rintro e w1 ⟨rfl, hfin⟩; have FIN := hidI hfin; clear hfin))
    all_goals
      go_wp2_with fail
      go_meet
      case rel => exact ⟨rfl, FIN.out⟩
  case rest =>
    obtain ⟨wa, hwa⟩ : ∃ wa, wa = wc := ⟨_, rfl⟩
    subst hwa
    obtain ⟨rfl, k0⟩ := hcut
    have K := hidI k0
    clear con1 g0 k0
    have hk3 := K.out.big
    obtain ⟨p0, p1, p2, p3, p4, -⟩ := K.out.1.c
    obtain ⟨q0, q1, q2, q3, q4, -⟩ := K.out.2.1.c
    obtain ⟨x0, x1, x2, x3, x4, y0, y1, y2, y3, y4⟩ := K.out.2.2.1.c
    have Z : Hid (_ ∧ _) := hidI (set_out (C := wa.heap.size) (g := w.heap.size + 2) ((H.out.bel K.out.2.2.2).weak (lowN_low (C := wa.heap.size))) K.out.2.2.2 (by omega) K.out.2.2.1.lt)
    have ZB : Hid _ := hidI (K.out.2.2.1.set (.int .i64 t.kind) (.int .i64 t.n) (.string ⟨t.s.toArray⟩) (.slice a1 t.keys.length c1) (.slice a2 t.l.length c2))
    go_wp2_with fail
    obtain ⟨z0, z1, z2, z3, z4, -⟩ := ZB.out.c
    refine bodyPost_ret (v := .tuple #[.agg #[.int .i64 t.kind, .int .i64 t.n, .string ⟨t.s.toArray⟩, .slice a1 t.keys.length c1, .slice a2 t.l.length c2], .int .i64 3]) ?_ rfl ?_
    · simp only [set5] at z0 z1 z2 z3 z4
      simp [results, Tryd.results31, go_sem, z0, z1, z2, z3, z4]
    · exact ⟨_, rfl, Z.out.1, Z.out.2⟩
set_option maxRecDepth 100000 in
set_option maxHeartbeats 40000000 in
theorem alter2_none (w : World) (ok oks : Nat → Prop) (t x : V) (v xv nv : Value) (s : List UInt8) (h : In w ok t v) (hx : In w ok x xv) (hn : Nice t) (hnv : StrsAre w oks [s] nv) (ha : atV t s = none) :
    Calls Tryd.prog 31 #[.int .i64 2, v, nv, xv] w fun e w' => ∃ r, e = .returned (.tuple #[r, .int .i64 3]) ∧ Below w.heap.size w w' ∧ In w' (okN ok w.heap.size) (t) r := by
  obtain ⟨nb, no, nc, rfl, n1, n2, n3, n4⟩ := strs_head hnv
  simp only [List.length_nil, Nat.zero_add] at n1 ⊢
  have H := hidI h.low
  have HX := hidI hx.low
  have HN := hidI hn
  obtain ⟨l1, l2, l3⟩ := h.lens
  obtain ⟨a1, a2, c1, c2, rfl⟩ := h.form
  obtain ⟨a7, a8, c7, c8, rfl⟩ := hx.form
  have hsz := nice_len hn
  have g0 : ∀ o1 o2 o3, (((w.alloc o1).alloc o2).alloc o3).cell? ⟨nb, no, none⟩ = some (.string ⟨s.toArray⟩) := fun o1 o2 o3 => cell_bel (bel_trans (bel_trans (bel_alloc _ _) (bel_alloc _ _)) (bel_alloc _ o3)) n4
  have con1 : Hid (∀ W, W.heap = (((w.alloc (.cells #[.int .i64 t.kind, .int .i64 t.n, .string ⟨t.s.toArray⟩, .slice a1 t.keys.length c1, .slice a2 t.l.length c2] 25)).alloc (.cells #[.int .i64 x.kind, .int .i64 x.n, .string ⟨x.s.toArray⟩, .slice a7 x.keys.length c7, .slice a8 x.l.length c8] 25)).alloc (.cells #[.int .i64 0, .int .i64 0, .string ⟨#[]⟩, .slice none 0 0, .slice none 0 0] 25)).heap → W.os = w.os → W.tape = w.tape → W.output = w.output → Calls Tryd.prog 28 #[.agg #[.int .i64 t.kind, .int .i64 t.n, .string ⟨t.s.toArray⟩, .slice a1 t.keys.length c1, .slice a2 t.l.length c2], .string ⟨s.toArray⟩] W fun e w' => e = .returned (.int .i64 (optI (atV t s))) ∧ KA w t x a1 a2 a7 a8 c1 c2 c7 c8 w') := by
    intro W e1 e2 e3 e4
    have hbW := bel_of3 e1 e2 e3 e4
    refine (rkid_is W (fun k => ok k ∧ k < w.heap.size) t _ s (H.out.bel hbW) (fun h5 => by have := nice_paired HN.out h5; simp only [pairedV, Bool.and_eq_true, decide_eq_true_eq] at this; omega)).mono ?_
    rintro e w1 ⟨rfl, hb1⟩
    exact ⟨rfl, box_bel hb1 (by unfold BoxIs; rw [e1]; exact h3a w _ _ _), box_bel hb1 (by unfold BoxIs; rw [e1]; exact h3b w _ _ _), box_bel hb1 (by unfold BoxIs; rw [e1]; exact h3c w _ _ _), bel_trans hbW hb1⟩
  have N4 := hidI n4
  have AT := hidI ha
  clear ha
  clear h hx hn n4 hnv
  have e11 : ¬ (1 : Int) < 1 := by omega
  go_enter Tryd.func31, Tryd.ntmps31
  go_upto_region 1 with fail
  go_cut [10] (fun p wc => p = .int .i64 (optI (atV t s)) ∧ KA w t x a1 a2 a7 a8 c1 c2 c7 c8 wc)
  case first =>
    go_region_with ((go_at_call 28; refine (con1.out _ (by rfl) (by rfl) (by rfl) (by rfl)).mono ?_; rintro e w1 ⟨rfl, hfin⟩; have FIN := hidI hfin; clear hfin))
    all_goals
      go_wp2_with fail
      go_meet
      case rel => exact ⟨rfl, FIN.out⟩
  case rest =>
    obtain ⟨wa, hwa⟩ : ∃ wa, wa = wc := ⟨_, rfl⟩
    subst hwa
    obtain ⟨rfl, k0⟩ := hcut
    have K := hidI k0
    clear con1 g0 k0
    have hk3 := K.out.big
    obtain ⟨p0, p1, p2, p3, p4, -⟩ := K.out.1.c
    obtain ⟨q0, q1, q2, q3, q4, -⟩ := K.out.2.1.c
    obtain ⟨x0, x1, x2, x3, x4, y0, y1, y2, y3, y4⟩ := K.out.2.2.1.c
    have eo : optI none = -1 := rfl
    rw [AT.out, eo]
    clear eo
    have Z : Hid (_ ∧ _) := hidI (set_out (C := wa.heap.size) (g := w.heap.size + 2) ((H.out.bel K.out.2.2.2).weak (lowN_low (C := wa.heap.size))) K.out.2.2.2 (by omega) K.out.2.2.1.lt)
    have ZB : Hid _ := hidI (K.out.2.2.1.set (.int .i64 t.kind) (.int .i64 t.n) (.string ⟨t.s.toArray⟩) (.slice a1 t.keys.length c1) (.slice a2 t.l.length c2))
    go_wp2_with fail
    obtain ⟨z0, z1, z2, z3, z4, -⟩ := ZB.out.c
    refine bodyPost_ret (v := .tuple #[.agg #[.int .i64 t.kind, .int .i64 t.n, .string ⟨t.s.toArray⟩, .slice a1 t.keys.length c1, .slice a2 t.l.length c2], .int .i64 3]) ?_ rfl ?_
    · simp only [set5] at z0 z1 z2 z3 z4
      simp [results, Tryd.results31, go_sem, z0, z1, z2, z3, z4]
    · exact ⟨_, rfl, Z.out.1, Z.out.2⟩
set_option maxRecDepth 100000 in
set_option maxHeartbeats 40000000 in
theorem alter3_none (w : World) (ok oks : Nat → Prop) (t x : V) (v xv nv : Value) (s : List UInt8) (h : In w ok t v) (hx : In w ok x xv) (hn : Nice t) (hnv : StrsAre w oks [s] nv) (ha : atV t s = none) :
    Calls Tryd.prog 31 #[.int .i64 3, v, nv, xv] w fun e w' => ∃ r, e = .returned (.tuple #[r, .int .i64 3]) ∧ Below w.heap.size w w' ∧ In w' (okN ok w.heap.size) (t) r := by
  obtain ⟨nb, no, nc, rfl, n1, n2, n3, n4⟩ := strs_head hnv
  simp only [List.length_nil, Nat.zero_add] at n1 ⊢
  have H := hidI h.low
  have HX := hidI hx.low
  have HN := hidI hn
  obtain ⟨l1, l2, l3⟩ := h.lens
  obtain ⟨a1, a2, c1, c2, rfl⟩ := h.form
  obtain ⟨a7, a8, c7, c8, rfl⟩ := hx.form
  have hsz := nice_len hn
  have g0 : ∀ o1 o2 o3, (((w.alloc o1).alloc o2).alloc o3).cell? ⟨nb, no, none⟩ = some (.string ⟨s.toArray⟩) := fun o1 o2 o3 => cell_bel (bel_trans (bel_trans (bel_alloc _ _) (bel_alloc _ _)) (bel_alloc _ o3)) n4
  have con1 : Hid (∀ W, W.heap = (((w.alloc (.cells #[.int .i64 t.kind, .int .i64 t.n, .string ⟨t.s.toArray⟩, .slice a1 t.keys.length c1, .slice a2 t.l.length c2] 25)).alloc (.cells #[.int .i64 x.kind, .int .i64 x.n, .string ⟨x.s.toArray⟩, .slice a7 x.keys.length c7, .slice a8 x.l.length c8] 25)).alloc (.cells #[.int .i64 0, .int .i64 0, .string ⟨#[]⟩, .slice none 0 0, .slice none 0 0] 25)).heap → W.os = w.os → W.tape = w.tape → W.output = w.output → Calls Tryd.prog 28 #[.agg #[.int .i64 t.kind, .int .i64 t.n, .string ⟨t.s.toArray⟩, .slice a1 t.keys.length c1, .slice a2 t.l.length c2], .string ⟨s.toArray⟩] W fun e w' => e = .returned (.int .i64 (optI (atV t s))) ∧ KA w t x a1 a2 a7 a8 c1 c2 c7 c8 w') := by
    intro W e1 e2 e3 e4
    have hbW := bel_of3 e1 e2 e3 e4
    refine (rkid_is W (fun k => ok k ∧ k < w.heap.size) t _ s (H.out.bel hbW) (fun h5 => by have := nice_paired HN.out h5; simp only [pairedV, Bool.and_eq_true, decide_eq_true_eq] at this; omega)).mono ?_
    rintro e w1 ⟨rfl, hb1⟩
    exact ⟨rfl, box_bel hb1 (by unfold BoxIs; rw [e1]; exact h3a w _ _ _), box_bel hb1 (by unfold BoxIs; rw [e1]; exact h3b w _ _ _), box_bel hb1 (by unfold BoxIs; rw [e1]; exact h3c w _ _ _), bel_trans hbW hb1⟩
  have N4 := hidI n4
  have AT := hidI ha
  clear ha
  clear h hx hn n4 hnv
  have e11 : ¬ (1 : Int) < 1 := by omega
  go_enter Tryd.func31, Tryd.ntmps31
  go_upto_region 1 with fail
  go_cut [10] (fun p wc => p = .int .i64 (optI (atV t s)) ∧ KA w t x a1 a2 a7 a8 c1 c2 c7 c8 wc)
  case first =>
    go_region_with ((go_at_call 28; refine (con1.out _ (by rfl) (by rfl) (by rfl) (by rfl)).mono ?_; rintro e w1 ⟨rfl, hfin⟩; have FIN := hidI hfin; clear hfin))
    all_goals
      go_wp2_with fail
      go_meet
      case rel => exact ⟨rfl, FIN.out⟩
  case rest =>
    obtain ⟨wa, hwa⟩ : ∃ wa, wa = wc := ⟨_, rfl⟩
    subst hwa
    obtain ⟨rfl, k0⟩ := hcut
    have K := hidI k0
    clear con1 g0 k0
    have hk3 := K.out.big
    obtain ⟨p0, p1, p2, p3, p4, -⟩ := K.out.1.c
    obtain ⟨q0, q1, q2, q3, q4, -⟩ := K.out.2.1.c
    obtain ⟨x0, x1, x2, x3, x4, y0, y1, y2, y3, y4⟩ := K.out.2.2.1.c
    have eo : optI none = -1 := rfl
    rw [AT.out, eo]
    clear eo
    have Z : Hid (_ ∧ _) := hidI (set_out (C := wa.heap.size) (g := w.heap.size + 2) ((H.out.bel K.out.2.2.2).weak (lowN_low (C := wa.heap.size))) K.out.2.2.2 (by omega) K.out.2.2.1.lt)
    have ZB : Hid _ := hidI (K.out.2.2.1.set (.int .i64 t.kind) (.int .i64 t.n) (.string ⟨t.s.toArray⟩) (.slice a1 t.keys.length c1) (.slice a2 t.l.length c2))
    go_wp2_with fail
    obtain ⟨z0, z1, z2, z3, z4, -⟩ := ZB.out.c
    refine bodyPost_ret (v := .tuple #[.agg #[.int .i64 t.kind, .int .i64 t.n, .string ⟨t.s.toArray⟩, .slice a1 t.keys.length c1, .slice a2 t.l.length c2], .int .i64 3]) ?_ rfl ?_
    · simp only [set5] at z0 z1 z2 z3 z4
      simp [results, Tryd.results31, go_sem, z0, z1, z2, z3, z4]
    · exact ⟨_, rfl, Z.out.1, Z.out.2⟩
set_option maxRecDepth 100000 in
set_option maxHeartbeats 40000000 in
theorem alter3_some (w : World) (ok oks : Nat → Prop) (t x : V) (v xv nv : Value) (s : List UInt8) (h : In w ok t v) (hx : In w ok x xv) (hn : Nice t) (hnv : StrsAre w oks [s] nv) (i : Nat) (ha : atV t s = some i) :
    Calls Tryd.prog 31 #[.int .i64 3, v, nv, xv] w fun e w' => ∃ r, e = .returned (.tuple #[r, .int .i64 0]) ∧ Below w.heap.size w w' ∧ In w' (okN ok w.heap.size) ({ t with l := t.l.take i ++ x :: t.l.drop (i + 1) }) r := by
  obtain ⟨nb, no, nc, rfl, n1, n2, n3, n4⟩ := strs_head hnv
  simp only [List.length_nil, Nat.zero_add] at n1 ⊢
  have H := hidI h.low
  have HX := hidI hx.low
  have HN := hidI hn
  obtain ⟨l1, l2, l3⟩ := h.lens
  obtain ⟨a1, a2, c1, c2, rfl⟩ := h.form
  obtain ⟨a7, a8, c7, c8, rfl⟩ := hx.form
  have hsz := nice_len hn
  have g0 : ∀ o1 o2 o3, (((w.alloc o1).alloc o2).alloc o3).cell? ⟨nb, no, none⟩ = some (.string ⟨s.toArray⟩) := fun o1 o2 o3 => cell_bel (bel_trans (bel_trans (bel_alloc _ _) (bel_alloc _ _)) (bel_alloc _ o3)) n4
  have con1 : Hid (∀ W, W.heap = (((w.alloc (.cells #[.int .i64 t.kind, .int .i64 t.n, .string ⟨t.s.toArray⟩, .slice a1 t.keys.length c1, .slice a2 t.l.length c2] 25)).alloc (.cells #[.int .i64 x.kind, .int .i64 x.n, .string ⟨x.s.toArray⟩, .slice a7 x.keys.length c7, .slice a8 x.l.length c8] 25)).alloc (.cells #[.int .i64 0, .int .i64 0, .string ⟨#[]⟩, .slice none 0 0, .slice none 0 0] 25)).heap → W.os = w.os → W.tape = w.tape → W.output = w.output → Calls Tryd.prog 28 #[.agg #[.int .i64 t.kind, .int .i64 t.n, .string ⟨t.s.toArray⟩, .slice a1 t.keys.length c1, .slice a2 t.l.length c2], .string ⟨s.toArray⟩] W fun e w' => e = .returned (.int .i64 (optI (atV t s))) ∧ KA w t x a1 a2 a7 a8 c1 c2 c7 c8 w') := by
    intro W e1 e2 e3 e4
    have hbW := bel_of3 e1 e2 e3 e4
    refine (rkid_is W (fun k => ok k ∧ k < w.heap.size) t _ s (H.out.bel hbW) (fun h5 => by have := nice_paired HN.out h5; simp only [pairedV, Bool.and_eq_true, decide_eq_true_eq] at this; omega)).mono ?_
    rintro e w1 ⟨rfl, hb1⟩
    exact ⟨rfl, box_bel hb1 (by unfold BoxIs; rw [e1]; exact h3a w _ _ _), box_bel hb1 (by unfold BoxIs; rw [e1]; exact h3b w _ _ _), box_bel hb1 (by unfold BoxIs; rw [e1]; exact h3c w _ _ _), bel_trans hbW hb1⟩
  have N4 := hidI n4
  have AT := hidI ha
  have hi : i < t.l.length := at_lt ha
  clear ha
  clear h hx hn n4 hnv
  have e11 : ¬ (1 : Int) < 1 := by omega
  go_enter Tryd.func31, Tryd.ntmps31
  go_upto_region 1 with fail
  go_cut [10] (fun p wc => p = .int .i64 (optI (atV t s)) ∧ KA w t x a1 a2 a7 a8 c1 c2 c7 c8 wc)
  case first =>
    go_region_with ((go_at_call 28; refine (con1.out _ (by rfl) (by rfl) (by rfl) (by rfl)).mono ?_; rintro e w1 ⟨rfl, hfin⟩; have FIN := hidI hfin; clear hfin))
    all_goals
      go_wp2_with fail
      go_meet
      case rel => exact ⟨rfl, FIN.out⟩
  case rest =>
    obtain ⟨wa, hwa⟩ : ∃ wa, wa = wc := ⟨_, rfl⟩
    subst hwa
    obtain ⟨rfl, k0⟩ := hcut
    have K := hidI k0
    clear con1 g0 k0
    have hk3 := K.out.big
    obtain ⟨p0, p1, p2, p3, p4, -⟩ := K.out.1.c
    obtain ⟨q0, q1, q2, q3, q4, -⟩ := K.out.2.1.c
    obtain ⟨x0, x1, x2, x3, x4, y0, y1, y2, y3, y4⟩ := K.out.2.2.1.c
    have eo : optI (some i) = (i : Int) := rfl
    rw [AT.out, eo]
    clear eo
    have v1 : ¬ (i : Int) < 0 := by omega
    go_wp2_with fail
    refine (rswapped_is _ (lowN ok w.heap.size wa.heap.size) t x _ _ i ((H.out.bel K.out.2.2.2).weak lowN_low) ((HX.out.bel K.out.2.2.2).weak lowN_low) hi (by omega)).mono ?_
    rintro e w9 ⟨r9, rfl, hb1, hy⟩
    obtain ⟨z, hz⟩ : ∃ z : V, { t with l := t.l.take i ++ x :: t.l.drop (i + 1) } = z := ⟨_, rfl⟩
    have HZ := hidI hz
    rw [hz] at hy
    obtain ⟨b7, b8, d7, d8, rfl⟩ := hy.form
    have K9 := hidI (K.out.bel hb1)
    have R := hidI (put_out K9.out hy (by omega) (by omega))
    clear x0 x1 x2 x3 x4 y0 y1 y2 y3 y4 p0 p1 p2 p3 p4 q0 q1 q2 q3 q4
    obtain ⟨x0, x1, x2, x3, x4, y0, y1, y2, y3, y4⟩ := K9.out.2.2.1.c
    clear hb1 hy hz
    go_wp2_with fail
    obtain ⟨r1, r2, r3⟩ := R.out
    obtain ⟨z0, z1, z2, z3, z4, -⟩ := r3.c
    refine bodyPost_ret (v := .tuple #[.agg #[.int .i64 z.kind, .int .i64 z.n, .string ⟨z.s.toArray⟩, .slice b7 z.keys.length d7, .slice b8 z.l.length d8], .int .i64 0]) ?_ rfl ?_
    · simp only [set5] at z0 z1 z2 z3 z4
      simp [results, Tryd.results31, go_sem, z0, z1, z2, z3, z4]
    · exact ⟨_, rfl, r1, by rw [HZ.out]; exact r2⟩
set_option maxRecDepth 100000 in
set_option maxHeartbeats 40000000 in
theorem alter1_object (w : World) (ok oks : Nat → Prop) (t x : V) (v xv nv : Value) (s : List UInt8) (h : In w ok t v) (hx : In w ok x xv) (hn : Nice t) (hnv : StrsAre w oks [s] nv) (h5 : t.kind = 5) :
    Calls Tryd.prog 31 #[.int .i64 1, v, nv, xv] w fun e w' => ∃ r, e = .returned (.tuple #[r, .int .i64 0]) ∧ Below w.heap.size w w' ∧ In w' (okN ok w.heap.size) (withV t s x) r := by
  obtain ⟨nb, no, nc, rfl, n1, n2, n3, n4⟩ := strs_head hnv
  simp only [List.length_nil, Nat.zero_add] at n1 ⊢
  have H := hidI h.low
  have HX := hidI hx.low
  have HN := hidI hn
  obtain ⟨l1, l2, l3⟩ := h.lens
  obtain ⟨a1, a2, c1, c2, rfl⟩ := h.form
  obtain ⟨a7, a8, c7, c8, rfl⟩ := hx.form
  have hsz := nice_len hn
  have g0 : ∀ o1 o2 o3, (((w.alloc o1).alloc o2).alloc o3).cell? ⟨nb, no, none⟩ = some (.string ⟨s.toArray⟩) := fun o1 o2 o3 => cell_bel (bel_trans (bel_trans (bel_alloc _ _) (bel_alloc _ _)) (bel_alloc _ o3)) n4
  have con1 : Hid (∀ W, W.heap = (((w.alloc (.cells #[.int .i64 t.kind, .int .i64 t.n, .string ⟨t.s.toArray⟩, .slice a1 t.keys.length c1, .slice a2 t.l.length c2] 25)).alloc (.cells #[.int .i64 x.kind, .int .i64 x.n, .string ⟨x.s.toArray⟩, .slice a7 x.keys.length c7, .slice a8 x.l.length c8] 25)).alloc (.cells #[.int .i64 0, .int .i64 0, .string ⟨#[]⟩, .slice none 0 0, .slice none 0 0] 25)).heap → W.os = w.os → W.tape = w.tape → W.output = w.output → Calls Tryd.prog 28 #[.agg #[.int .i64 t.kind, .int .i64 t.n, .string ⟨t.s.toArray⟩, .slice a1 t.keys.length c1, .slice a2 t.l.length c2], .string ⟨s.toArray⟩] W fun e w' => e = .returned (.int .i64 (optI (atV t s))) ∧ KA w t x a1 a2 a7 a8 c1 c2 c7 c8 w') := by
    intro W e1 e2 e3 e4
    have hbW := bel_of3 e1 e2 e3 e4
    refine (rkid_is W (fun k => ok k ∧ k < w.heap.size) t _ s (H.out.bel hbW) (fun h5 => by have := nice_paired HN.out h5; simp only [pairedV, Bool.and_eq_true, decide_eq_true_eq] at this; omega)).mono ?_
    rintro e w1 ⟨rfl, hb1⟩
    exact ⟨rfl, box_bel hb1 (by unfold BoxIs; rw [e1]; exact h3a w _ _ _), box_bel hb1 (by unfold BoxIs; rw [e1]; exact h3b w _ _ _), box_bel hb1 (by unfold BoxIs; rw [e1]; exact h3c w _ _ _), bel_trans hbW hb1⟩
  have N4 := hidI n4
  have q5 : (t.kind == 5) = true := by simp [h5]
  have OB := hidI (nice_ob HN.out h5)
  clear h5
  clear h hx hn n4 hnv
  have e11 : ¬ (1 : Int) < 1 := by omega
  go_enter Tryd.func31, Tryd.ntmps31
  go_upto_region 1 with fail
  go_cut [10] (fun p wc => p = .int .i64 (optI (atV t s)) ∧ KA w t x a1 a2 a7 a8 c1 c2 c7 c8 wc)
  case first =>
    go_region_with ((go_at_call 28; refine (con1.out _ (by rfl) (by rfl) (by rfl) (by rfl)).mono ?_; rintro e w1 ⟨rfl, hfin⟩; have FIN := hidI hfin; clear hfin))
    all_goals
      go_wp2_with fail
      go_meet
      case rel => exact ⟨rfl, FIN.out⟩
  case rest =>
    obtain ⟨wa, hwa⟩ : ∃ wa, wa = wc := ⟨_, rfl⟩
    subst hwa
    obtain ⟨rfl, k0⟩ := hcut
    have K := hidI k0
    clear con1 g0 k0
    have hk3 := K.out.big
    obtain ⟨p0, p1, p2, p3, p4, -⟩ := K.out.1.c
    obtain ⟨q0, q1, q2, q3, q4, -⟩ := K.out.2.1.c
    obtain ⟨x0, x1, x2, x3, x4, y0, y1, y2, y3, y4⟩ := K.out.2.2.1.c
    go_upto_region 10 with fail
    refine wp_region_T (fun wS => KA w t x a1 a2 a7 a8 c1 c2 c7 c8 wS) [6] (by kernel_rfl) (K.out.bel (bel_drewN _ 1)) (fun hHeld => ?_)
    refine wpAnyT_take (i := 0) (v := ?_) [5, 6, 7] (oi := _) rfl (by kernel_rfl) (by kernel_rfl) (by kernel_rfl) (by kernel_rfl) (fun _ _ _ h => h) (Or.inl ⟨by rfl, ?_⟩) hHeld ?_
    rotate_left
    · intro wS hSw
      obtain ⟨u0, u1, u2, u3, u4, -⟩ := hSw.1.c
      obtain ⟨v0, v1, v2, v3, v4, -⟩ := hSw.2.1.c
      have nn := cell_bel hSw.2.2.2 N4.out
      go_simp
      all_goals with_reducible rfl
    simp only [Act.put, List.setIfInBounds_toArray, List.set_cons_zero, List.set_cons_succ]
    refine wpAnyT_take (i := 1) (v := ?_) [2, 3, 5, 6, 7] (oi := _) rfl (by kernel_rfl) (by kernel_rfl) (by kernel_rfl) (by kernel_rfl) (fun _ _ _ h => h) (Or.inl ⟨by rfl, ?_⟩) hHeld ?_
    rotate_left
    · intro wS hSw
      go_simp
      all_goals with_reducible rfl
    simp only [Act.put, List.setIfInBounds_toArray, List.set_cons_zero, List.set_cons_succ]
    refine wpAnyT_take (i := 2) (v := ?_) [3, 5, 6, 7] (oi := _) rfl (by kernel_rfl) (by kernel_rfl) (by kernel_rfl) (by kernel_rfl) (fun _ _ _ h => h) (Or.inl ⟨by rfl, ?_⟩) hHeld ?_
    rotate_left
    · intro wS hSw
      go_simp
      all_goals with_reducible rfl
    simp only [Act.put, List.setIfInBounds_toArray, List.set_cons_zero, List.set_cons_succ]
    refine wpAnyT_take (i := 3) (v := ?_) [5, 6, 7] (oi := _) rfl (by kernel_rfl) (by kernel_rfl) (by kernel_rfl) (by kernel_rfl) (fun _ _ _ h => h) (Or.inl ⟨by rfl, ?_⟩) hHeld ?_
    rotate_left
    · intro wS hSw
      obtain ⟨u0, u1, u2, u3, u4, -⟩ := hSw.1.c
      obtain ⟨v0, v1, v2, v3, v4, -⟩ := hSw.2.1.c
      have nn := cell_bel hSw.2.2.2 N4.out
      go_simp
      all_goals with_reducible rfl
    simp only [Act.put, List.setIfInBounds_toArray, List.set_cons_zero, List.set_cons_succ]
    refine wpAnyT_take (i := 4) (v := ?_) [5, 6, 7] (oi := _) rfl (by kernel_rfl) (by kernel_rfl) (by kernel_rfl) (by kernel_rfl) (fun _ _ _ h => h) (Or.inl ⟨by rfl, ?_⟩) hHeld ?_
    rotate_left
    · intro wS hSw
      obtain ⟨u0, u1, u2, u3, u4, -⟩ := hSw.1.c
      obtain ⟨v0, v1, v2, v3, v4, -⟩ := hSw.2.1.c
      have nn := cell_bel hSw.2.2.2 N4.out
      go_simp
      all_goals with_reducible rfl
    simp only [Act.put, List.setIfInBounds_toArray, List.set_cons_zero, List.set_cons_succ]
    refine wpAnyT_ready (rs := [5]) (by kernel_rfl) (by simp) ?_
    refine AllReadyT.cons (i := 5) (o := _) rfl (fun K hK => ?_) ?_
    · go_simp
      refine (rwith_is _ (lowN ok w.heap.size wa.heap.size) t x _ _ s ((H.out.bel hHeld.2.2.2).weak lowN_low) ((HX.out.bel hHeld.2.2.2).weak lowN_low) OB.out (by omega) n3).mono ?_
      rintro e w5q ⟨r9, rfl, hy, hb⟩
      obtain ⟨z, hz⟩ : ∃ z : V, withV t s x = z := ⟨_, rfl⟩
      rw [hz] at hy
      obtain ⟨b7, b8, d7, d8, rfl⟩ := hy.form
      have HZ := hidI hz
      have HB := hidI hHeld.big
      have HY := hidI hy
      refine hK.out _ _ (hHeld.bel hb) (fun hHeld2 => ?_)
      clear hz hy hb
      clear hK K
      replace hHeld := hHeld2
      clear hHeld2
      try simp only [Act.put, List.setIfInBounds_toArray, List.set_cons_zero, List.set_cons_succ]
      obtain ⟨o0, o1, o2, o3, o4, f0, f1, f2, f3, f4⟩ := hHeld.2.2.1.c
      have R := hidI (put_out hHeld HY.out (by omega) HB.out)
      clear hHeld
      refine wpAnyT_last (i := 6) (o := _) (by kernel_rfl) (by rfl) rfl (fun K hK => ?_)
      go_simp
      refine hK.out _ _ ?_
      clear hK K
      try simp only [Act.put, List.setIfInBounds_toArray, List.set_cons_zero, List.set_cons_succ]
      refine wpAnyT_last (i := 7) (o := _) (by kernel_rfl) (by rfl) rfl (fun K hK => ?_)
      go_simp
      refine hK.out _ _ ?_
      clear hK K
      try simp only [Act.put, List.setIfInBounds_toArray, List.set_cons_zero, List.set_cons_succ]
      refine wpAnyT_done (by kernel_rfl) ?_ _
      go_wp2_with fail
      obtain ⟨r1, r2, r3⟩ := R.out
      obtain ⟨z0, z1, z2, z3, z4, -⟩ := r3.c
      refine bodyPost_ret (v := .tuple #[.agg #[.int .i64 z.kind, .int .i64 z.n, .string ⟨z.s.toArray⟩, .slice b7 z.keys.length d7, .slice b8 z.l.length d8], .int .i64 0]) ?_ rfl ?_
      · simp only [set5] at z0 z1 z2 z3 z4
        simp [results, Tryd.results31, go_sem, z0, z1, z2, z3, z4]
      · exact ⟨_, rfl, r1, by rw [HZ.out]; exact r2⟩
    exact AllReadyT.nil
set_option maxRecDepth 100000 in
set_option maxHeartbeats 40000000 in
theorem alter2_object (w : World) (ok oks : Nat → Prop) (t x : V) (v xv nv : Value) (s : List UInt8) (h : In w ok t v) (hx : In w ok x xv) (hn : Nice t) (hnv : StrsAre w oks [s] nv) (i : Nat) (ha : atV t s = some i) (h5 : t.kind = 5) :
    Calls Tryd.prog 31 #[.int .i64 2, v, nv, xv] w fun e w' => ∃ r, e = .returned (.tuple #[r, .int .i64 0]) ∧ Below w.heap.size w w' ∧ In w' (okN ok w.heap.size) (withoutV t s) r := by
  obtain ⟨nb, no, nc, rfl, n1, n2, n3, n4⟩ := strs_head hnv
  simp only [List.length_nil, Nat.zero_add] at n1 ⊢
  have H := hidI h.low
  have HX := hidI hx.low
  have HN := hidI hn
  obtain ⟨l1, l2, l3⟩ := h.lens
  obtain ⟨a1, a2, c1, c2, rfl⟩ := h.form
  obtain ⟨a7, a8, c7, c8, rfl⟩ := hx.form
  have hsz := nice_len hn
  have g0 : ∀ o1 o2 o3, (((w.alloc o1).alloc o2).alloc o3).cell? ⟨nb, no, none⟩ = some (.string ⟨s.toArray⟩) := fun o1 o2 o3 => cell_bel (bel_trans (bel_trans (bel_alloc _ _) (bel_alloc _ _)) (bel_alloc _ o3)) n4
  have con1 : Hid (∀ W, W.heap = (((w.alloc (.cells #[.int .i64 t.kind, .int .i64 t.n, .string ⟨t.s.toArray⟩, .slice a1 t.keys.length c1, .slice a2 t.l.length c2] 25)).alloc (.cells #[.int .i64 x.kind, .int .i64 x.n, .string ⟨x.s.toArray⟩, .slice a7 x.keys.length c7, .slice a8 x.l.length c8] 25)).alloc (.cells #[.int .i64 0, .int .i64 0, .string ⟨#[]⟩, .slice none 0 0, .slice none 0 0] 25)).heap → W.os = w.os → W.tape = w.tape → W.output = w.output → Calls Tryd.prog 28 #[.agg #[.int .i64 t.kind, .int .i64 t.n, .string ⟨t.s.toArray⟩, .slice a1 t.keys.length c1, .slice a2 t.l.length c2], .string ⟨s.toArray⟩] W fun e w' => e = .returned (.int .i64 (optI (atV t s))) ∧ KA w t x a1 a2 a7 a8 c1 c2 c7 c8 w') := by
    intro W e1 e2 e3 e4
    have hbW := bel_of3 e1 e2 e3 e4
    refine (rkid_is W (fun k => ok k ∧ k < w.heap.size) t _ s (H.out.bel hbW) (fun h5 => by have := nice_paired HN.out h5; simp only [pairedV, Bool.and_eq_true, decide_eq_true_eq] at this; omega)).mono ?_
    rintro e w1 ⟨rfl, hb1⟩
    exact ⟨rfl, box_bel hb1 (by unfold BoxIs; rw [e1]; exact h3a w _ _ _), box_bel hb1 (by unfold BoxIs; rw [e1]; exact h3b w _ _ _), box_bel hb1 (by unfold BoxIs; rw [e1]; exact h3c w _ _ _), bel_trans hbW hb1⟩
  have N4 := hidI n4
  have AT := hidI ha
  have hi : i < t.l.length := at_lt ha
  clear ha
  have q5 : (t.kind == 5) = true := by simp [h5]
  have OB := hidI (nice_ob HN.out h5)
  clear h5
  clear h hx hn n4 hnv
  have e11 : ¬ (1 : Int) < 1 := by omega
  go_enter Tryd.func31, Tryd.ntmps31
  go_upto_region 1 with fail
  go_cut [10] (fun p wc => p = .int .i64 (optI (atV t s)) ∧ KA w t x a1 a2 a7 a8 c1 c2 c7 c8 wc)
  case first =>
    go_region_with ((go_at_call 28; refine (con1.out _ (by rfl) (by rfl) (by rfl) (by rfl)).mono ?_; rintro e w1 ⟨rfl, hfin⟩; have FIN := hidI hfin; clear hfin))
    all_goals
      go_wp2_with fail
      go_meet
      case rel => exact ⟨rfl, FIN.out⟩
  case rest =>
    obtain ⟨wa, hwa⟩ : ∃ wa, wa = wc := ⟨_, rfl⟩
    subst hwa
    obtain ⟨rfl, k0⟩ := hcut
    have K := hidI k0
    clear con1 g0 k0
    have hk3 := K.out.big
    obtain ⟨p0, p1, p2, p3, p4, -⟩ := K.out.1.c
    obtain ⟨q0, q1, q2, q3, q4, -⟩ := K.out.2.1.c
    obtain ⟨x0, x1, x2, x3, x4, y0, y1, y2, y3, y4⟩ := K.out.2.2.1.c
    have eo : optI (some i) = (i : Int) := rfl
    rw [AT.out, eo]
    clear eo
    have v1 : ¬ (i : Int) < 0 := by omega
    go_upto_region 25 with fail
    refine wp_region_T (fun wS => KA w t x a1 a2 a7 a8 c1 c2 c7 c8 wS) [5] (by kernel_rfl) (K.out.bel (bel_drewN _ 1)) (fun hHeld => ?_)
    refine wpAnyT_take (i := 0) (v := ?_) [4, 5, 6] (oi := _) rfl (by kernel_rfl) (by kernel_rfl) (by kernel_rfl) (by kernel_rfl) (fun _ _ _ h => h) (Or.inl ⟨by rfl, ?_⟩) hHeld ?_
    rotate_left
    · intro wS hSw
      obtain ⟨u0, u1, u2, u3, u4, -⟩ := hSw.1.c
      obtain ⟨v0, v1, v2, v3, v4, -⟩ := hSw.2.1.c
      have nn := cell_bel hSw.2.2.2 N4.out
      go_simp
      all_goals with_reducible rfl
    simp only [Act.put, List.setIfInBounds_toArray, List.set_cons_zero, List.set_cons_succ]
    refine wpAnyT_take (i := 1) (v := ?_) [2, 3, 4, 5, 6] (oi := _) rfl (by kernel_rfl) (by kernel_rfl) (by kernel_rfl) (by kernel_rfl) (fun _ _ _ h => h) (Or.inl ⟨by rfl, ?_⟩) hHeld ?_
    rotate_left
    · intro wS hSw
      go_simp
      all_goals with_reducible rfl
    simp only [Act.put, List.setIfInBounds_toArray, List.set_cons_zero, List.set_cons_succ]
    refine wpAnyT_take (i := 2) (v := ?_) [3, 4, 5, 6] (oi := _) rfl (by kernel_rfl) (by kernel_rfl) (by kernel_rfl) (by kernel_rfl) (fun _ _ _ h => h) (Or.inl ⟨by rfl, ?_⟩) hHeld ?_
    rotate_left
    · intro wS hSw
      go_simp
      all_goals with_reducible rfl
    simp only [Act.put, List.setIfInBounds_toArray, List.set_cons_zero, List.set_cons_succ]
    refine wpAnyT_take (i := 3) (v := ?_) [4, 5, 6] (oi := _) rfl (by kernel_rfl) (by kernel_rfl) (by kernel_rfl) (by kernel_rfl) (fun _ _ _ h => h) (Or.inl ⟨by rfl, ?_⟩) hHeld ?_
    rotate_left
    · intro wS hSw
      obtain ⟨u0, u1, u2, u3, u4, -⟩ := hSw.1.c
      obtain ⟨v0, v1, v2, v3, v4, -⟩ := hSw.2.1.c
      have nn := cell_bel hSw.2.2.2 N4.out
      go_simp
      all_goals with_reducible rfl
    simp only [Act.put, List.setIfInBounds_toArray, List.set_cons_zero, List.set_cons_succ]
    refine wpAnyT_ready (rs := [4]) (by kernel_rfl) (by simp) ?_
    refine AllReadyT.cons (i := 4) (o := _) rfl (fun K hK => ?_) ?_
    · go_simp
      refine (rwithout_is _ (lowN ok w.heap.size wa.heap.size) t _ s ((H.out.bel hHeld.2.2.2).weak lowN_low) OB.out (by omega)).mono ?_
      rintro e w4q ⟨r9, rfl, hy, hb⟩
      obtain ⟨z, hz⟩ : ∃ z : V, withoutV t s = z := ⟨_, rfl⟩
      rw [hz] at hy
      obtain ⟨b7, b8, d7, d8, rfl⟩ := hy.form
      have HZ := hidI hz
      have HB := hidI hHeld.big
      have HY := hidI hy
      refine hK.out _ _ (hHeld.bel hb) (fun hHeld2 => ?_)
      clear hz hy hb
      clear hK K
      replace hHeld := hHeld2
      clear hHeld2
      try simp only [Act.put, List.setIfInBounds_toArray, List.set_cons_zero, List.set_cons_succ]
      obtain ⟨o0, o1, o2, o3, o4, f0, f1, f2, f3, f4⟩ := hHeld.2.2.1.c
      have R := hidI (put_out hHeld HY.out (by omega) HB.out)
      clear hHeld
      refine wpAnyT_last (i := 5) (o := _) (by kernel_rfl) (by rfl) rfl (fun K hK => ?_)
      go_simp
      refine hK.out _ _ ?_
      clear hK K
      try simp only [Act.put, List.setIfInBounds_toArray, List.set_cons_zero, List.set_cons_succ]
      refine wpAnyT_last (i := 6) (o := _) (by kernel_rfl) (by rfl) rfl (fun K hK => ?_)
      go_simp
      refine hK.out _ _ ?_
      clear hK K
      try simp only [Act.put, List.setIfInBounds_toArray, List.set_cons_zero, List.set_cons_succ]
      refine wpAnyT_done (by kernel_rfl) ?_ _
      go_wp2_with fail
      obtain ⟨r1, r2, r3⟩ := R.out
      obtain ⟨z0, z1, z2, z3, z4, -⟩ := r3.c
      refine bodyPost_ret (v := .tuple #[.agg #[.int .i64 z.kind, .int .i64 z.n, .string ⟨z.s.toArray⟩, .slice b7 z.keys.length d7, .slice b8 z.l.length d8], .int .i64 0]) ?_ rfl ?_
      · simp only [set5] at z0 z1 z2 z3 z4
        simp [results, Tryd.results31, go_sem, z0, z1, z2, z3, z4]
      · exact ⟨_, rfl, r1, by rw [HZ.out]; exact r2⟩
    exact AllReadyT.nil
end Go.Proofs.YtaifciobaapehaaDoor

/- What alter of package stairwellref does: a list that grows. -/
set_option linter.unusedSimpArgs false
set_option linter.unusedVariables false
namespace Go.Proofs.YtaifciobaapehaaDoor
open Go.RowKit

/- The boxes, and a list that is being made. -/
def AB (w : World) (t x : V) (a1 a2 a7 a8 : Option Addr) (c1 c2 c7 c8 g : Nat) (la : Option Addr) (n lc : Nat) (W : World) : Prop := KA w t x a1 a2 a7 a8 c1 c2 c7 c8 W ∧ BoxIs W g (.int .i64 4) (.int .i64 0) (.string ⟨#[]⟩) (.slice none 0 0) (.slice la n lc) ∧ w.heap.size + 3 ≤ g
def AL (w : World) (t x : V) (a1 a2 a7 a8 : Option Addr) (c1 c2 c7 c8 g : Nat) (la : Option Addr) (n lc : Nat) (cs : List Value) (W : World) : Prop := AB w t x a1 a2 a7 a8 c1 c2 c7 c8 g la n lc W ∧ W.ownsRow (g + 1) 25 5 (.slice la n lc) n cs
theorem AB.bel {w W W' : World} {t x : V} {a1 a2 a7 a8 : Option Addr} {c1 c2 c7 c8 : Nat} {g n lc : Nat} {la : Option Addr} (h : AB w t x a1 a2 a7 a8 c1 c2 c7 c8 g la n lc W) (hb : Below W.heap.size W W') : AB w t x a1 a2 a7 a8 c1 c2 c7 c8 g la n lc W' := ⟨h.1.bel hb, box_bel hb h.2.1, h.2.2⟩
theorem AB.grown {w W W' : World} {t x : V} {a1 a2 a7 a8 : Option Addr} {c1 c2 c7 c8 : Nat} {g n lc : Nat} {la : Option Addr} {r : Option Nat} (h : AB w t x a1 a2 a7 a8 c1 c2 c7 c8 g la n lc W) (hg : W.grownBy W' r) (hr : ∀ k, r = some k → g + 1 ≤ k) : AB w t x a1 a2 a7 a8 c1 c2 c7 c8 g la n lc W' :=
  ⟨h.1.grown hg (fun k e => by have := hr k e; have := h.2.2; omega), h.2.1.grown hg (fun e => by have := hr _ e.symm; omega), h.2.2⟩
theorem AL.bel {w W W' : World} {t x : V} {a1 a2 a7 a8 : Option Addr} {c1 c2 c7 c8 : Nat} {g n lc : Nat} {la : Option Addr} {cs : List Value} (h : AL w t x a1 a2 a7 a8 c1 c2 c7 c8 g la n lc cs W) (hb : Below W.heap.size W W') : AL w t x a1 a2 a7 a8 c1 c2 c7 c8 g la n lc cs W' :=
  ⟨h.1.bel hb, h.2.kept (gb_below hb : W.grownBy W' none) (by cases e : (Value.slice la n lc).ownBlock with | none => exact .inl rfl | some j => exact .inr (by simp))⟩
theorem AL.lt {w W : World} {t x : V} {a1 a2 a7 a8 : Option Addr} {c1 c2 c7 c8 : Nat} {g n lc : Nat} {la : Option Addr} {cs : List Value} (h : AL w t x a1 a2 a7 a8 c1 c2 c7 c8 g la n lc cs W) : g + 1 ≤ W.heap.size := h.1.2.1.lt
theorem AL.push {w W W' : World} {t x : V} {a1 a2 a7 a8 : Option Addr} {c1 c2 c7 c8 : Nat} {g n lc n' lc' : Nat} {la la' : Option Addr} {cs cs' : List Value} (h : AL w t x a1 a2 a7 a8 c1 c2 c7 c8 g la n lc cs W) (ho : W'.ownsRow (g + 1) 25 5 (.slice la' n' lc') n' cs') (hg : W.grownBy W' (Value.slice la n lc).ownBlock) :
    AL w t x a1 a2 a7 a8 c1 c2 c7 c8 g la' n' lc' cs' (W'.setCell ⟨g, 4, none⟩ (.slice la' n' lc')) := by
  have hlow := h.2.lt
  have r1 := h.1.grown hg (fun k e => (hlow k e).1)
  have gs : W'.grownBy (W'.setCell ⟨g, 4, none⟩ (.slice la' n' lc')) (some g) := gb_set (gb_refl _ _) _ _
  exact ⟨⟨r1.1.grown gs (fun k e => by cases e; exact h.1.2.2), heap_set r1.2.1 4 _, h.1.2.2⟩, own_kept' ho gs (by omega)⟩
theorem AL.fin {w W : World} {t x : V} {a1 a2 a7 a8 : Option Addr} {c1 c2 c7 c8 : Nat} {g n lc d : Nat} {la : Option Addr} {cs : List Value} {ok : Nat → Prop} {l' : List V} (h : AL w t x a1 a2 a7 a8 c1 c2 c7 c8 g la n lc cs W) (hr : RowV (VIs w (fun k => ok k ∧ k < w.heap.size) d) l' cs) (hn : n = l'.length) (hm : l'.length ≤ 1000000) :
    Below w.heap.size w (set5 W (w.heap.size + 2) (.int .i64 4) (.int .i64 0) (.string ⟨#[]⟩) (.slice none 0 0) (.slice la n lc)) ∧ In (set5 W (w.heap.size + 2) (.int .i64 4) (.int .i64 0) (.string ⟨#[]⟩) (.slice none 0 0) (.slice la n lc)) (okN ok w.heap.size) ⟨4, 0, [], [], l'⟩ (.agg #[.int .i64 4, .int .i64 0, .string ⟨#[]⟩, .slice none 0 0, .slice la n lc]) ∧ BoxIs (set5 W (w.heap.size + 2) (.int .i64 4) (.int .i64 0) (.string ⟨#[]⟩) (.slice none 0 0) (.slice la n lc)) (w.heap.size + 2) (.int .i64 4) (.int .i64 0) (.string ⟨#[]⟩) (.slice none 0 0) (.slice la n lc) := by
  have g2 := set5_gb W (w.heap.size + 2) (.int .i64 4) (.int .i64 0) (.string ⟨#[]⟩) (.slice none 0 0) (.slice la n lc)
  have hb9 : Below w.heap.size w (set5 W (w.heap.size + 2) (.int .i64 4) (.int .i64 0) (.string ⟨#[]⟩) (.slice none 0 0) (.slice la n lc)) := bel_set5 h.1.1.2.2.2 (by omega) _ _ _ _ _
  have h3 := h.1.2.2
  refine ⟨hb9, ⟨d + 1, _, _, rfl, by unfold I64; simp, by unfold I64; simp, by simp [maxLen], ⟨by simp [maxLen], .inl ⟨rfl, none, rfl⟩⟩, ?_⟩, h.1.1.2.2.1.set _ _ _ _ _⟩
  refine own_vals hn (own_kept' h.2 g2 (by omega)) ?_ (fun k hk => .inr (by omega)) (by unfold maxLen; simp only; omega)
  exact (hr.bel (B := w.heap.size) hb9).imp fun _ _ h => h.weak fun k hk => by rcases hk with hk | hk; exact .inl hk.1; exact .inr hk
theorem list_is {t : V} (h : Nice t) (hk : t.kind = 4) : t = ⟨4, 0, [], [], t.l⟩ := by
  have hs := nice_shaped h
  unfold shapedB at hs
  rw [hk] at hs
  obtain ⟨k, n, s, ks, l⟩ := t
  simp only at hk
  subst hk
  simp at hs
  simp [hs]

attribute [local go_sem ↓] Go.wp_at_zero Go.wp_at_succ
set_option maxRecDepth 100000 in
set_option maxHeartbeats 40000000 in
theorem alter1_list (w : World) (ok oks : Nat → Prop) (t x : V) (v xv nv : Value) (s : List UInt8) (h : In w ok t v) (hx : In w ok x xv) (hn : Nice t) (hnv : StrsAre w oks [s] nv) (i : Nat) (h4 : t.kind = 4) (hp : placeP t.l.length s = some i) :
    Calls Tryd.prog 31 #[.int .i64 1, v, nv, xv] w fun e w' => ∃ r, e = .returned (.tuple #[r, .int .i64 0]) ∧ Below w.heap.size w w' ∧ In w' (okN ok w.heap.size) ({ t with l := t.l.take i ++ x :: t.l.drop i }) r := by
  obtain ⟨nb, no, nc, rfl, n1, n2, n3, n4⟩ := strs_head hnv
  simp only [List.length_nil, Nat.zero_add] at n1 ⊢
  have H := hidI h.low
  have HX := hidI hx.low
  have HN := hidI hn
  obtain ⟨l1, l2, l3⟩ := h.lens
  obtain ⟨a1, a2, c1, c2, rfl⟩ := h.form
  obtain ⟨a7, a8, c7, c8, rfl⟩ := hx.form
  have hsz := nice_len hn
  have g0 : ∀ o1 o2 o3, (((w.alloc o1).alloc o2).alloc o3).cell? ⟨nb, no, none⟩ = some (.string ⟨s.toArray⟩) := fun o1 o2 o3 => cell_bel (bel_trans (bel_trans (bel_alloc _ _) (bel_alloc _ _)) (bel_alloc _ o3)) n4
  have con1 : Hid (∀ W, W.heap = (((w.alloc (.cells #[.int .i64 t.kind, .int .i64 t.n, .string ⟨t.s.toArray⟩, .slice a1 t.keys.length c1, .slice a2 t.l.length c2] 25)).alloc (.cells #[.int .i64 x.kind, .int .i64 x.n, .string ⟨x.s.toArray⟩, .slice a7 x.keys.length c7, .slice a8 x.l.length c8] 25)).alloc (.cells #[.int .i64 0, .int .i64 0, .string ⟨#[]⟩, .slice none 0 0, .slice none 0 0] 25)).heap → W.os = w.os → W.tape = w.tape → W.output = w.output → Calls Tryd.prog 28 #[.agg #[.int .i64 t.kind, .int .i64 t.n, .string ⟨t.s.toArray⟩, .slice a1 t.keys.length c1, .slice a2 t.l.length c2], .string ⟨s.toArray⟩] W fun e w' => e = .returned (.int .i64 (optI (atV t s))) ∧ KA w t x a1 a2 a7 a8 c1 c2 c7 c8 w') := by
    intro W e1 e2 e3 e4
    have hbW := bel_of3 e1 e2 e3 e4
    refine (rkid_is W (fun k => ok k ∧ k < w.heap.size) t _ s (H.out.bel hbW) (fun h5 => by have := nice_paired HN.out h5; simp only [pairedV, Bool.and_eq_true, decide_eq_true_eq] at this; omega)).mono ?_
    rintro e w1 ⟨rfl, hb1⟩
    exact ⟨rfl, box_bel hb1 (by unfold BoxIs; rw [e1]; exact h3a w _ _ _), box_bel hb1 (by unfold BoxIs; rw [e1]; exact h3b w _ _ _), box_bel hb1 (by unfold BoxIs; rw [e1]; exact h3c w _ _ _), bel_trans hbW hb1⟩
  have N4 := hidI n4
  have q5 : (t.kind == 5) = false := by simp [h4]
  have q4 : (t.kind == 4) = true := by simp [h4]
  have hia := place_le hp
  have HP := hidI hp
  obtain ⟨d, hd, hxd⟩ := h.low.two hx.low
  obtain ⟨ks, ls, e9, -, -, -, -, h5⟩ := hd
  simp only [Value.agg.injEq, Array.mk.injEq, List.cons.injEq, and_true] at e9
  obtain ⟨-, -, -, -, rfl⟩ := e9
  obtain ⟨cs1, cs2, v1, v3, r1, r2, s1, s3, hcase⟩ := rows_at h5 i i (Nat.le_refl _) hia (by omega)
  have SL : Hid (SlIs w 5 v1 i cs1 ∧ SlIs w 5 v3 (t.l.length - i) cs2) := ⟨s1, s3⟩
  have RX : RowV (VIs w (fun k => ok k ∧ k < w.heap.size) d) [x] [.int .i64 x.kind, .int .i64 x.n, .string ⟨x.s.toArray⟩, .slice a7 x.keys.length c7, .slice a8 x.l.length c8] := ⟨_, _, _, _, _, [], rfl, hxd, rfl⟩
  have RW : Hid (RowV (VIs w (fun k => ok k ∧ k < w.heap.size) d) (t.l.take i ++ x :: t.l.drop i) ([] ++ cs1 ++ [.int .i64 x.kind, .int .i64 x.n, .string ⟨x.s.toArray⟩, .slice a7 x.keys.length c7, .slice a8 x.l.length c8] ++ cs2)) := hidI (by
    have := (r2.append RX).append r1
    rw [List.nil_append, List.append_assoc]
    exact this)
  have LI : Hid ({ t with l := t.l.take i ++ x :: t.l.drop i } = (⟨4, 0, [], [], t.l.take i ++ x :: t.l.drop i⟩ : V)) := hidI (by rw [list_is hn h4])
  have j0 : (0 : Int) ≤ (i : Int) := by omega
  have j1 : (i : Int) ≤ (t.l.length : Int) := by omega
  have HC := hidI hcase
  clear h5 r1 r2 s1 s3 hcase hp h4 hxd RX
  clear h hx hn n4 hnv
  have e11 : ¬ (1 : Int) < 1 := by omega
  go_enter Tryd.func31, Tryd.ntmps31
  go_upto_region 1 with fail
  go_cut [10] (fun p wc => p = .int .i64 (optI (atV t s)) ∧ KA w t x a1 a2 a7 a8 c1 c2 c7 c8 wc)
  case first =>
    go_region_with ((go_at_call 28; refine (con1.out _ (by rfl) (by rfl) (by rfl) (by rfl)).mono ?_; rintro e w1 ⟨rfl, hfin⟩; have FIN := hidI hfin; clear hfin))
    all_goals
      go_wp2_with fail
      go_meet
      case rel => exact ⟨rfl, FIN.out⟩
  case rest =>
    obtain ⟨wa, hwa⟩ : ∃ wa, wa = wc := ⟨_, rfl⟩
    subst hwa
    obtain ⟨rfl, k0⟩ := hcut
    have K := hidI k0
    clear con1 g0 k0
    have hk3 := K.out.big
    rcases HC.out with ⟨rfl, e3, rfl, rfl⟩ | ⟨b, off, rfl, hc1, hc2, rfl, hv3⟩
    · have j6 : (t.l.length : Int) ≤ 0 := by omega
      have e7 : i = 0 := by omega
      have E3 := hidI e3
      clear HC e3
      subst e7
      obtain ⟨p0, p1, p2, p3, p4, -⟩ := K.out.1.c
      obtain ⟨q0, q1, q2, q3, q4, -⟩ := K.out.2.1.c
      obtain ⟨x0, x1, x2, x3, x4, y0, y1, y2, y3, y4⟩ := K.out.2.2.1.c
      clear p0 p1 p2 p3 p4 q0 q1 q2 q3 q4 x0 x1 x2 x3 x4 y0 y1 y2 y3 y4
      obtain ⟨p0, p1, p2, p3, p4, -⟩ := K.out.1.c
      go_upto_region 12 with fail
      clear p0 p1 p2 p3 p4
      refine wp_region_T (fun wS => KA w t x a1 a2 a7 a8 c1 0 c7 c8 wS) [] (by kernel_rfl) (K.out.bel (bel_drewN _ 1)) (fun hHeld => ?_)
      refine wpAnyT_take (i := 0) (v := ?_) [] (oi := _) rfl (by kernel_rfl) (by kernel_rfl) (by kernel_rfl) (by kernel_rfl) (fun _ _ _ h => h) (Or.inl ⟨by rfl, ?_⟩) hHeld ?_
      rotate_left
      · intro wS hSw
        go_simp
        all_goals with_reducible rfl
      simp only [Act.put, List.setIfInBounds_toArray, List.set_cons_zero, List.set_cons_succ]
      refine wpAnyT_take (i := 1) (v := ?_) [] (oi := _) rfl (by kernel_rfl) (by kernel_rfl) (by kernel_rfl) (by kernel_rfl) (fun _ _ _ h => h) (Or.inl ⟨by rfl, ?_⟩) hHeld ?_
      rotate_left
      · intro wS hSw
        go_simp
        all_goals with_reducible rfl
      simp only [Act.put, List.setIfInBounds_toArray, List.set_cons_zero, List.set_cons_succ]
      refine wpAnyT_take (i := 2) (v := ?_) [] (oi := _) rfl (by kernel_rfl) (by kernel_rfl) (by kernel_rfl) (by kernel_rfl) (fun _ _ _ h => h) (Or.inl ⟨by rfl, ?_⟩) hHeld ?_
      rotate_left
      · intro wS hSw
        obtain ⟨u0, u1, u2, u3, u4, -⟩ := hSw.1.c
        have nn := cell_bel hSw.2.2.2 N4.out
        go_simp
        all_goals with_reducible rfl
      simp only [Act.put, List.setIfInBounds_toArray, List.set_cons_zero, List.set_cons_succ]
      refine wpAnyT_take (i := 3) (v := ?_) [] (oi := _) rfl (by kernel_rfl) (by kernel_rfl) (by kernel_rfl) (by kernel_rfl) (fun _ _ _ h => h) (Or.inl ⟨by rfl, ?_⟩) hHeld ?_
      rotate_left
      · intro wS hSw
        go_simp
        all_goals with_reducible rfl
      simp only [Act.put, List.setIfInBounds_toArray, List.set_cons_zero, List.set_cons_succ]
      refine wpAnyT_take (i := 4) (v := ?_) [] (oi := _) rfl (by kernel_rfl) (by kernel_rfl) (by kernel_rfl) (by kernel_rfl) (fun _ _ _ h => h) (Or.inl ⟨by rfl, ?_⟩) hHeld ?_
      rotate_left
      · intro wS hSw
        obtain ⟨u0, u1, u2, u3, u4, -⟩ := hSw.1.c
        have nn := cell_bel hSw.2.2.2 N4.out
        go_simp
        all_goals with_reducible rfl
      simp only [Act.put, List.setIfInBounds_toArray, List.set_cons_zero, List.set_cons_succ]
      refine wpAnyT_take (i := 5) (v := ?_) [] (oi := _) rfl (by kernel_rfl) (by kernel_rfl) (by kernel_rfl) (by kernel_rfl) (fun _ _ _ h => h) (Or.inl ⟨by rfl, ?_⟩) hHeld ?_
      rotate_left
      · intro wS hSw
        go_simp
        all_goals with_reducible rfl
      simp only [Act.put, List.setIfInBounds_toArray, List.set_cons_zero, List.set_cons_succ]
      refine wpAnyT_ready (rs := [6]) (by kernel_rfl) (by simp) ?_
      refine AllReadyT.cons (i := 6) (o := _) rfl (fun K hK => ?_) ?_
      · go_simp
        refine (rplace_is _ s t.l.length l2).mono ?_
        rintro e w6q ⟨rfl, hb⟩
        rw [HP.out]
        have eo : optI (some 0) = (0 : Int) := rfl
        rw [eo]
        clear eo
        refine hK.out _ _ (hHeld.bel hb) (fun hHeld2 => ?_)
        clear hb
        clear hK K
        replace hHeld := hHeld2
        clear hHeld2
        try simp only [Act.put, List.setIfInBounds_toArray, List.set_cons_zero, List.set_cons_succ]
        refine wpAnyT_take (i := 7) (v := ?_) [] (oi := _) rfl (by kernel_rfl) (by kernel_rfl) (by kernel_rfl) (by kernel_rfl) (fun _ _ _ h => h) (Or.inl ⟨by rfl, ?_⟩) hHeld ?_
        rotate_left
        · intro wS hSw
          go_simp
          all_goals with_reducible rfl
        simp only [Act.put, List.setIfInBounds_toArray, List.set_cons_zero, List.set_cons_succ]
        refine wpAnyT_done (by kernel_rfl) ?_ _
        have K2 := hidI hHeld
        clear hHeld
        have i0 : ¬ (0 : Int) < 0 := by omega
        go_upto_region 16 with fail
        have A0 : Hid (AL w t x a1 a2 a7 a8 c1 0 c7 c8 w6q.heap.size none 0 0 [] (w6q.alloc (.cells #[.int .i64 4, .int .i64 0, .string ⟨#[]⟩, .slice none 0 0, .slice none 0 0] 25))) := hidI ⟨⟨K2.out.bel (bel_alloc _ _), heap_alloc_new w6q _, by have := K2.out.big; omega⟩, World.ownsRow_nil _ _ _ _⟩
        have O0 := hidI (And.intro (show w6q.heap.size + 1 ≤ (w6q.alloc (.cells #[.int .i64 4, .int .i64 0, .string ⟨#[]⟩, .slice none 0 0, .slice none 0 0] 25)).drew.heap.size by simp) (A0.out.bel (bel_drewN _ 1)).2)
        have O0b := hidI A0.out.1
        have S1 := hidI (SL.out.1.bel ((A0.out.1.1.bel (bel_drewN _ 1)).2.2.2))
        refine wp_region_T (fun wS => AB w t x a1 a2 a7 a8 c1 0 c7 c8 w6q.heap.size none 0 0 wS) [8] (by kernel_rfl) ((O0b).out.bel (bel_drewN _ 1)) (fun hHeld => ?_)
        refine wpAnyT_take (i := 0) (v := ?_) [1, 6, 7, 8] (oi := _) rfl (by kernel_rfl) (by kernel_rfl) (by kernel_rfl) (by kernel_rfl) (fun _ _ _ h => h) (Or.inl ⟨by rfl, ?_⟩) hHeld ?_
        rotate_left
        · intro wS hSw
          go_simp
          all_goals with_reducible rfl
        simp only [Act.put, List.setIfInBounds_toArray, List.set_cons_zero, List.set_cons_succ]
        refine wpAnyT_take (i := 1) (v := ?_) [6, 7, 8] (oi := _) rfl (by kernel_rfl) (by kernel_rfl) (by kernel_rfl) (by kernel_rfl) (fun _ _ _ h => h) (Or.inl ⟨by rfl, ?_⟩) hHeld ?_
        rotate_left
        · intro wS hSw
          obtain ⟨u0, u1, u2, u3, u4, -⟩ := hSw.1.1.c
          obtain ⟨v0, v1, v2, v3, v4, -⟩ := hSw.2.1.c
          go_simp
          all_goals with_reducible rfl
        simp only [Act.put, List.setIfInBounds_toArray, List.set_cons_zero, List.set_cons_succ]
        refine wpAnyT_take (i := 2) (v := ?_) [3, 5, 6, 7, 8] (oi := _) rfl (by kernel_rfl) (by kernel_rfl) (by kernel_rfl) (by kernel_rfl) (fun _ _ _ h => h) (Or.inl ⟨by rfl, ?_⟩) hHeld ?_
        rotate_left
        · intro wS hSw
          go_simp
          all_goals with_reducible rfl
        simp only [Act.put, List.setIfInBounds_toArray, List.set_cons_zero, List.set_cons_succ]
        refine wpAnyT_take (i := 3) (v := ?_) [5, 6, 7, 8] (oi := _) rfl (by kernel_rfl) (by kernel_rfl) (by kernel_rfl) (by kernel_rfl) (fun _ _ _ h => h) (Or.inl ⟨by rfl, ?_⟩) hHeld ?_
        rotate_left
        · intro wS hSw
          obtain ⟨u0, u1, u2, u3, u4, -⟩ := hSw.1.1.c
          obtain ⟨v0, v1, v2, v3, v4, -⟩ := hSw.2.1.c
          go_simp
          all_goals with_reducible rfl
        simp only [Act.put, List.setIfInBounds_toArray, List.set_cons_zero, List.set_cons_succ]
        refine wpAnyT_take (i := 4) (v := ?_) [5, 6, 7, 8] (oi := _) rfl (by kernel_rfl) (by kernel_rfl) (by kernel_rfl) (by kernel_rfl) (fun _ _ _ h => h) (Or.inl ⟨by rfl, ?_⟩) hHeld ?_
        rotate_left
        · intro wS hSw
          go_simp
          all_goals with_reducible rfl
        simp only [Act.put, List.setIfInBounds_toArray, List.set_cons_zero, List.set_cons_succ]
        refine wpAnyT_take (i := 5) (v := ?_) [6, 7, 8] (oi := _) rfl (by kernel_rfl) (by kernel_rfl) (by kernel_rfl) (by kernel_rfl) (fun _ _ _ h => h) (Or.inl ⟨by rfl, ?_⟩) hHeld ?_
        rotate_left
        · intro wS hSw
          go_simp
          all_goals with_reducible rfl
        simp only [Act.put, List.setIfInBounds_toArray, List.set_cons_zero, List.set_cons_succ]
        refine wpAnyT_ready (rs := [6]) (by kernel_rfl) (by simp) ?_
        refine AllReadyT.cons (i := 6) (o := _) rfl (fun K hK => ?_) ?_
        · refine step_run (by rfl) (.tmp 84) (.tmp 88) 23 (by rfl) _ _ (by rfl) (by rfl) _ (fun ty => run_joinV O0.out.2 S1.out (by omega) O0.out.1 ty) (fun v9 W9 hR => ?_)
          obtain ⟨ho9, hg9⟩ := hR
          obtain ⟨m16, hm9⟩ : ∃ m, 0 + 0 = m := ⟨_, rfl⟩
          rw [hm9] at ho9
          have Hm16 := hidI hm9
          clear hm9
          obtain ⟨la9, lc9, rfl, -, -, -, -⟩ := own_form ho9
          have O9 := hidI ho9
          have G9 := hidI hg9
          refine hK.out _ _ (hHeld.grown hg9 (fun k e => (O0.out.2.lt k e).1)) (fun hHeld2 => ?_)
          clear ho9 hg9
          clear hK K
          replace hHeld := hHeld2
          clear hHeld2
          try simp only [Act.put, List.setIfInBounds_toArray, List.set_cons_zero, List.set_cons_succ]
          refine wpAnyT_take (i := 7) (v := ?_) [8] (oi := _) rfl (by kernel_rfl) (by kernel_rfl) (by kernel_rfl) (by kernel_rfl) (fun _ _ _ h => h) (Or.inl ⟨by rfl, ?_⟩) hHeld ?_
          rotate_left
          · intro wS hSw
            go_simp
            all_goals with_reducible rfl
          simp only [Act.put, List.setIfInBounds_toArray, List.set_cons_zero, List.set_cons_succ]
          obtain ⟨o0, o1, o2, o3, o4, f0, f1, f2, f3, f4⟩ := hHeld.2.1.c
          clear hHeld
          refine wpAnyT_last (i := 8) (o := _) (by kernel_rfl) (by rfl) rfl (fun K hK => ?_)
          go_simp
          refine hK.out _ _ ?_
          clear hK K
          try simp only [Act.put, List.setIfInBounds_toArray, List.set_cons_zero, List.set_cons_succ]
          refine wpAnyT_done (by kernel_rfl) ?_ _
          obtain ⟨W16, hW16⟩ : ∃ W, W9.setCell ⟨w6q.heap.size, 4, none⟩ (.slice la9 m16 lc9) = W := ⟨_, rfl⟩
          rw [hW16]
          have A16 : Hid (AL w t x a1 a2 a7 a8 c1 0 c7 c8 w6q.heap.size la9 m16 lc9 _ W16) := hidI (by rw [← hW16]; exact (A0.out.bel (bel_drewN _ 1)).push O9.out G9.out)
          clear hW16 O9 G9 A0 O0 O0b S1
          obtain ⟨gg, cap, W17, hR17, ho17, hg17, -⟩ := run_pushV (A16.out.2.alloc (.cells #[.int .i64 x.kind, .int .i64 x.n, .string ⟨x.s.toArray⟩, .slice a7 x.keys.length c7, .slice a8 x.l.length c8] 25)) (heap_alloc_new W16 _) (by have := Hm16.out; omega) (by have := A16.out.lt; simp; omega) 23
          have B17 := hidI (A16.out.1.grown (gb_trans (World.grownBy_alloc W16 _ _) hg17) (fun k e => (A16.out.2.lt k e).1))
          obtain ⟨u0, u1, u2, u3, u4, -⟩ := A16.out.1.1.2.1.c
          obtain ⟨v0, v1, v2, v3, v4, -⟩ := A16.out.1.2.1.c
          obtain ⟨o0, o1, o2, o3, o4, f0, f1, f2, f3, f4⟩ := B17.out.2.1.c
          obtain ⟨W18, hW18⟩ : ∃ W, W17.setCell ⟨w6q.heap.size, 4, none⟩ (.slice (some ⟨gg, 0, none⟩) (m16 + 1) cap) = W := ⟨_, rfl⟩
          have A17 : Hid (AL w t x a1 a2 a7 a8 c1 0 c7 c8 w6q.heap.size (some ⟨gg, 0, none⟩) (m16 + 1) cap _ W18) := hidI (by rw [← hW18]; exact A16.out.push ho17 (gb_trans (World.grownBy_alloc W16 _ _) hg17))
          clear ho17 hg17 B17 A16
          go_upto_region 18 with (at_builtin; go_must (refine Lib.wpList_append_run _ rfl _ _ _ _ rfl (.slice la9 m16 lc9) (.slice (some ⟨W16.heap.size, 0, none⟩) 1 1) rfl rfl _ _ hR17 ?_))
          try rw [hW18]
          clear hW18 hR17 u0 u1 u2 u3 u4 v0 v1 v2 v3 v4 o0 o1 o2 o3 o4 f0 f1 f2 f3 f4
          have O17 := hidI (And.intro (show w6q.heap.size + 1 ≤ W18.drew.heap.size by have := A17.out.lt; simpa using this) (A17.out.bel (bel_drewN _ 1)).2)
          have O17b := hidI A17.out.1
          have S3 := hidI (SL.out.2.bel ((A17.out.1.1.bel (bel_drewN _ 1)).2.2.2))
          refine wp_region_T (fun wS => AB w t x a1 a2 a7 a8 c1 0 c7 c8 w6q.heap.size (some ⟨gg, 0, none⟩) (m16 + 1) cap wS) [8] (by kernel_rfl) ((O17b).out.bel (bel_drewN _ 1)) (fun hHeld => ?_)
          refine wpAnyT_take (i := 0) (v := ?_) [1, 6, 7, 8] (oi := _) rfl (by kernel_rfl) (by kernel_rfl) (by kernel_rfl) (by kernel_rfl) (fun _ _ _ h => h) (Or.inl ⟨by rfl, ?_⟩) hHeld ?_
          rotate_left
          · intro wS hSw
            go_simp
            all_goals with_reducible rfl
          simp only [Act.put, List.setIfInBounds_toArray, List.set_cons_zero, List.set_cons_succ]
          refine wpAnyT_take (i := 1) (v := ?_) [6, 7, 8] (oi := _) rfl (by kernel_rfl) (by kernel_rfl) (by kernel_rfl) (by kernel_rfl) (fun _ _ _ h => h) (Or.inl ⟨by rfl, ?_⟩) hHeld ?_
          rotate_left
          · intro wS hSw
            obtain ⟨u0, u1, u2, u3, u4, -⟩ := hSw.1.1.c
            obtain ⟨v0, v1, v2, v3, v4, -⟩ := hSw.2.1.c
            go_simp
            all_goals with_reducible rfl
          simp only [Act.put, List.setIfInBounds_toArray, List.set_cons_zero, List.set_cons_succ]
          refine wpAnyT_take (i := 2) (v := ?_) [3, 5, 6, 7, 8] (oi := _) rfl (by kernel_rfl) (by kernel_rfl) (by kernel_rfl) (by kernel_rfl) (fun _ _ _ h => h) (Or.inl ⟨by rfl, ?_⟩) hHeld ?_
          rotate_left
          · intro wS hSw
            go_simp
            all_goals with_reducible rfl
          simp only [Act.put, List.setIfInBounds_toArray, List.set_cons_zero, List.set_cons_succ]
          refine wpAnyT_take (i := 3) (v := ?_) [5, 6, 7, 8] (oi := _) rfl (by kernel_rfl) (by kernel_rfl) (by kernel_rfl) (by kernel_rfl) (fun _ _ _ h => h) (Or.inl ⟨by rfl, ?_⟩) hHeld ?_
          rotate_left
          · intro wS hSw
            obtain ⟨u0, u1, u2, u3, u4, -⟩ := hSw.1.1.c
            obtain ⟨v0, v1, v2, v3, v4, -⟩ := hSw.2.1.c
            go_simp
            all_goals with_reducible rfl
          simp only [Act.put, List.setIfInBounds_toArray, List.set_cons_zero, List.set_cons_succ]
          refine wpAnyT_take (i := 4) (v := ?_) [5, 6, 7, 8] (oi := _) rfl (by kernel_rfl) (by kernel_rfl) (by kernel_rfl) (by kernel_rfl) (fun _ _ _ h => h) (Or.inl ⟨by rfl, ?_⟩) hHeld ?_
          rotate_left
          · intro wS hSw
            go_simp
            all_goals with_reducible rfl
          simp only [Act.put, List.setIfInBounds_toArray, List.set_cons_zero, List.set_cons_succ]
          refine wpAnyT_take (i := 5) (v := ?_) [6, 7, 8] (oi := _) rfl (by kernel_rfl) (by kernel_rfl) (by kernel_rfl) (by kernel_rfl) (fun _ _ _ h => h) (Or.inl ⟨by rfl, ?_⟩) hHeld ?_
          rotate_left
          · intro wS hSw
            go_simp
            all_goals with_reducible rfl
          simp only [Act.put, List.setIfInBounds_toArray, List.set_cons_zero, List.set_cons_succ]
          refine wpAnyT_ready (rs := [6]) (by kernel_rfl) (by simp) ?_
          refine AllReadyT.cons (i := 6) (o := _) rfl (fun K hK => ?_) ?_
          · refine step_run (by rfl) (.tmp 98) (.tmp 102) 23 (by rfl) _ _ (by rfl) (by rfl) _ (fun ty => run_joinV O17.out.2 S3.out (by have := Hm16.out; omega) O17.out.1 ty) (fun v9 W9 hR => ?_)
            obtain ⟨ho9, hg9⟩ := hR
            obtain ⟨m18, hm9⟩ : ∃ m, m16 + 1 + (t.l.length - 0) = m := ⟨_, rfl⟩
            rw [hm9] at ho9
            have Hm18 := hidI hm9
            clear hm9
            obtain ⟨la9, lc9, rfl, -, -, -, -⟩ := own_form ho9
            have O9 := hidI ho9
            have G9 := hidI hg9
            refine hK.out _ _ (hHeld.grown hg9 (fun k e => (O17.out.2.lt k e).1)) (fun hHeld2 => ?_)
            clear ho9 hg9
            clear hK K
            replace hHeld := hHeld2
            clear hHeld2
            try simp only [Act.put, List.setIfInBounds_toArray, List.set_cons_zero, List.set_cons_succ]
            refine wpAnyT_take (i := 7) (v := ?_) [8] (oi := _) rfl (by kernel_rfl) (by kernel_rfl) (by kernel_rfl) (by kernel_rfl) (fun _ _ _ h => h) (Or.inl ⟨by rfl, ?_⟩) hHeld ?_
            rotate_left
            · intro wS hSw
              go_simp
              all_goals with_reducible rfl
            simp only [Act.put, List.setIfInBounds_toArray, List.set_cons_zero, List.set_cons_succ]
            obtain ⟨o0, o1, o2, o3, o4, f0, f1, f2, f3, f4⟩ := hHeld.2.1.c
            clear hHeld
            refine wpAnyT_last (i := 8) (o := _) (by kernel_rfl) (by rfl) rfl (fun K hK => ?_)
            go_simp
            refine hK.out _ _ ?_
            clear hK K
            try simp only [Act.put, List.setIfInBounds_toArray, List.set_cons_zero, List.set_cons_succ]
            refine wpAnyT_done (by kernel_rfl) ?_ _
            obtain ⟨W18, hW18⟩ : ∃ W, W9.setCell ⟨w6q.heap.size, 4, none⟩ (.slice la9 m18 lc9) = W := ⟨_, rfl⟩
            rw [hW18]
            have A18 : Hid (AL w t x a1 a2 a7 a8 c1 0 c7 c8 w6q.heap.size la9 m18 lc9 _ W18) := hidI (by rw [← hW18]; exact (A17.out.bel (bel_drewN _ 1)).push O9.out G9.out)
            clear hW18 O9 G9 A17 O17 O17b S3
            have hlen : m18 = (t.l.take 0 ++ x :: t.l.drop 0).length := by have := Hm18.out; have := Hm16.out; simp; omega
            have R := hidI (A18.out.fin (ok := ok) RW.out hlen (by rw [← hlen]; have := Hm18.out; have := Hm16.out; omega))
            clear hlen
            obtain ⟨u0, u1, u2, u3, u4, -⟩ := A18.out.1.2.1.c
            obtain ⟨o0, o1, o2, o3, o4, f0, f1, f2, f3, f4⟩ := A18.out.1.1.2.2.1.c
            go_wp2_with fail
            obtain ⟨r1, r2, r3⟩ := R.out
            obtain ⟨z0, z1, z2, z3, z4, -⟩ := r3.c
            refine bodyPost_ret (v := .tuple #[.agg #[.int .i64 4, .int .i64 0, .string ⟨#[]⟩, .slice none 0 0, .slice la9 m18 lc9], .int .i64 0]) ?_ rfl ?_
            · simp only [set5] at z0 z1 z2 z3 z4
              simp [results, Tryd.results31, go_sem, z0, z1, z2, z3, z4]
            · exact ⟨_, rfl, r1, by first | (rw [LI.out]; exact r2) | (have h9 := LI.out; simp only [List.take_zero, List.drop_zero, List.nil_append] at h9 r2 ⊢; rw [h9]; exact r2) | (have h9 := LI.out; simp at h9 r2 ⊢; rw [h9]; exact r2)⟩
          exact AllReadyT.nil
        exact AllReadyT.nil
      exact AllReadyT.nil
    · obtain ⟨a3, hifs⟩ : ∃ a3, (if c2 = i then (some ⟨b, off, none⟩ : Option Addr) else some ⟨b, off + i * 5, none⟩) = a3 := ⟨_, rfl⟩
      rw [hifs] at hv3
      subst hv3
      clear HC
      have j5 : (i : Int) ≤ (c2 : Int) := by omega
      have j6 : (t.l.length : Int) ≤ (c2 : Int) := by omega
      obtain ⟨p0, p1, p2, p3, p4, -⟩ := K.out.1.c
      obtain ⟨q0, q1, q2, q3, q4, -⟩ := K.out.2.1.c
      obtain ⟨x0, x1, x2, x3, x4, y0, y1, y2, y3, y4⟩ := K.out.2.2.1.c
      clear p0 p1 p2 p3 p4 q0 q1 q2 q3 q4 x0 x1 x2 x3 x4 y0 y1 y2 y3 y4
      obtain ⟨p0, p1, p2, p3, p4, -⟩ := K.out.1.c
      go_upto_region 12 with fail
      clear p0 p1 p2 p3 p4
      refine wp_region_T (fun wS => KA w t x a1 (some ⟨b, off, none⟩) a7 a8 c1 c2 c7 c8 wS) [] (by kernel_rfl) (K.out.bel (bel_drewN _ 1)) (fun hHeld => ?_)
      refine wpAnyT_take (i := 0) (v := ?_) [] (oi := _) rfl (by kernel_rfl) (by kernel_rfl) (by kernel_rfl) (by kernel_rfl) (fun _ _ _ h => h) (Or.inl ⟨by rfl, ?_⟩) hHeld ?_
      rotate_left
      · intro wS hSw
        go_simp
        all_goals with_reducible rfl
      simp only [Act.put, List.setIfInBounds_toArray, List.set_cons_zero, List.set_cons_succ]
      refine wpAnyT_take (i := 1) (v := ?_) [] (oi := _) rfl (by kernel_rfl) (by kernel_rfl) (by kernel_rfl) (by kernel_rfl) (fun _ _ _ h => h) (Or.inl ⟨by rfl, ?_⟩) hHeld ?_
      rotate_left
      · intro wS hSw
        go_simp
        all_goals with_reducible rfl
      simp only [Act.put, List.setIfInBounds_toArray, List.set_cons_zero, List.set_cons_succ]
      refine wpAnyT_take (i := 2) (v := ?_) [] (oi := _) rfl (by kernel_rfl) (by kernel_rfl) (by kernel_rfl) (by kernel_rfl) (fun _ _ _ h => h) (Or.inl ⟨by rfl, ?_⟩) hHeld ?_
      rotate_left
      · intro wS hSw
        obtain ⟨u0, u1, u2, u3, u4, -⟩ := hSw.1.c
        have nn := cell_bel hSw.2.2.2 N4.out
        go_simp
        all_goals with_reducible rfl
      simp only [Act.put, List.setIfInBounds_toArray, List.set_cons_zero, List.set_cons_succ]
      refine wpAnyT_take (i := 3) (v := ?_) [] (oi := _) rfl (by kernel_rfl) (by kernel_rfl) (by kernel_rfl) (by kernel_rfl) (fun _ _ _ h => h) (Or.inl ⟨by rfl, ?_⟩) hHeld ?_
      rotate_left
      · intro wS hSw
        go_simp
        all_goals with_reducible rfl
      simp only [Act.put, List.setIfInBounds_toArray, List.set_cons_zero, List.set_cons_succ]
      refine wpAnyT_take (i := 4) (v := ?_) [] (oi := _) rfl (by kernel_rfl) (by kernel_rfl) (by kernel_rfl) (by kernel_rfl) (fun _ _ _ h => h) (Or.inl ⟨by rfl, ?_⟩) hHeld ?_
      rotate_left
      · intro wS hSw
        obtain ⟨u0, u1, u2, u3, u4, -⟩ := hSw.1.c
        have nn := cell_bel hSw.2.2.2 N4.out
        go_simp
        all_goals with_reducible rfl
      simp only [Act.put, List.setIfInBounds_toArray, List.set_cons_zero, List.set_cons_succ]
      refine wpAnyT_take (i := 5) (v := ?_) [] (oi := _) rfl (by kernel_rfl) (by kernel_rfl) (by kernel_rfl) (by kernel_rfl) (fun _ _ _ h => h) (Or.inl ⟨by rfl, ?_⟩) hHeld ?_
      rotate_left
      · intro wS hSw
        go_simp
        all_goals with_reducible rfl
      simp only [Act.put, List.setIfInBounds_toArray, List.set_cons_zero, List.set_cons_succ]
      refine wpAnyT_ready (rs := [6]) (by kernel_rfl) (by simp) ?_
      refine AllReadyT.cons (i := 6) (o := _) rfl (fun K hK => ?_) ?_
      · go_simp
        refine (rplace_is _ s t.l.length l2).mono ?_
        rintro e w6q ⟨rfl, hb⟩
        rw [HP.out]
        have eo : optI (some i) = (i : Int) := rfl
        rw [eo]
        clear eo
        refine hK.out _ _ (hHeld.bel hb) (fun hHeld2 => ?_)
        clear hb
        clear hK K
        replace hHeld := hHeld2
        clear hHeld2
        try simp only [Act.put, List.setIfInBounds_toArray, List.set_cons_zero, List.set_cons_succ]
        refine wpAnyT_take (i := 7) (v := ?_) [] (oi := _) rfl (by kernel_rfl) (by kernel_rfl) (by kernel_rfl) (by kernel_rfl) (fun _ _ _ h => h) (Or.inl ⟨by rfl, ?_⟩) hHeld ?_
        rotate_left
        · intro wS hSw
          go_simp
          all_goals with_reducible rfl
        simp only [Act.put, List.setIfInBounds_toArray, List.set_cons_zero, List.set_cons_succ]
        refine wpAnyT_done (by kernel_rfl) ?_ _
        have K2 := hidI hHeld
        clear hHeld
        have i0 : ¬ (i : Int) < 0 := by omega
        go_upto_region 16 with fail
        have A0 : Hid (AL w t x a1 (some ⟨b, off, none⟩) a7 a8 c1 c2 c7 c8 w6q.heap.size none 0 0 [] (w6q.alloc (.cells #[.int .i64 4, .int .i64 0, .string ⟨#[]⟩, .slice none 0 0, .slice none 0 0] 25))) := hidI ⟨⟨K2.out.bel (bel_alloc _ _), heap_alloc_new w6q _, by have := K2.out.big; omega⟩, World.ownsRow_nil _ _ _ _⟩
        have O0 := hidI (And.intro (show w6q.heap.size + 1 ≤ (w6q.alloc (.cells #[.int .i64 4, .int .i64 0, .string ⟨#[]⟩, .slice none 0 0, .slice none 0 0] 25)).drew.heap.size by simp) (A0.out.bel (bel_drewN _ 1)).2)
        have O0b := hidI A0.out.1
        have S1 := hidI (SL.out.1.bel ((A0.out.1.1.bel (bel_drewN _ 1)).2.2.2))
        refine wp_region_T (fun wS => AB w t x a1 (some ⟨b, off, none⟩) a7 a8 c1 c2 c7 c8 w6q.heap.size none 0 0 wS) [8] (by kernel_rfl) ((O0b).out.bel (bel_drewN _ 1)) (fun hHeld => ?_)
        refine wpAnyT_take (i := 0) (v := ?_) [1, 6, 7, 8] (oi := _) rfl (by kernel_rfl) (by kernel_rfl) (by kernel_rfl) (by kernel_rfl) (fun _ _ _ h => h) (Or.inl ⟨by rfl, ?_⟩) hHeld ?_
        rotate_left
        · intro wS hSw
          go_simp
          all_goals with_reducible rfl
        simp only [Act.put, List.setIfInBounds_toArray, List.set_cons_zero, List.set_cons_succ]
        refine wpAnyT_take (i := 1) (v := ?_) [6, 7, 8] (oi := _) rfl (by kernel_rfl) (by kernel_rfl) (by kernel_rfl) (by kernel_rfl) (fun _ _ _ h => h) (Or.inl ⟨by rfl, ?_⟩) hHeld ?_
        rotate_left
        · intro wS hSw
          obtain ⟨u0, u1, u2, u3, u4, -⟩ := hSw.1.1.c
          obtain ⟨v0, v1, v2, v3, v4, -⟩ := hSw.2.1.c
          go_simp
          all_goals with_reducible rfl
        simp only [Act.put, List.setIfInBounds_toArray, List.set_cons_zero, List.set_cons_succ]
        refine wpAnyT_take (i := 2) (v := ?_) [3, 5, 6, 7, 8] (oi := _) rfl (by kernel_rfl) (by kernel_rfl) (by kernel_rfl) (by kernel_rfl) (fun _ _ _ h => h) (Or.inl ⟨by rfl, ?_⟩) hHeld ?_
        rotate_left
        · intro wS hSw
          go_simp
          all_goals with_reducible rfl
        simp only [Act.put, List.setIfInBounds_toArray, List.set_cons_zero, List.set_cons_succ]
        refine wpAnyT_take (i := 3) (v := ?_) [5, 6, 7, 8] (oi := _) rfl (by kernel_rfl) (by kernel_rfl) (by kernel_rfl) (by kernel_rfl) (fun _ _ _ h => h) (Or.inl ⟨by rfl, ?_⟩) hHeld ?_
        rotate_left
        · intro wS hSw
          obtain ⟨u0, u1, u2, u3, u4, -⟩ := hSw.1.1.c
          obtain ⟨v0, v1, v2, v3, v4, -⟩ := hSw.2.1.c
          go_simp
          all_goals with_reducible rfl
        simp only [Act.put, List.setIfInBounds_toArray, List.set_cons_zero, List.set_cons_succ]
        refine wpAnyT_take (i := 4) (v := ?_) [5, 6, 7, 8] (oi := _) rfl (by kernel_rfl) (by kernel_rfl) (by kernel_rfl) (by kernel_rfl) (fun _ _ _ h => h) (Or.inl ⟨by rfl, ?_⟩) hHeld ?_
        rotate_left
        · intro wS hSw
          go_simp
          all_goals with_reducible rfl
        simp only [Act.put, List.setIfInBounds_toArray, List.set_cons_zero, List.set_cons_succ]
        refine wpAnyT_take (i := 5) (v := ?_) [6, 7, 8] (oi := _) rfl (by kernel_rfl) (by kernel_rfl) (by kernel_rfl) (by kernel_rfl) (fun _ _ _ h => h) (Or.inl ⟨by rfl, ?_⟩) hHeld ?_
        rotate_left
        · intro wS hSw
          go_simp
          all_goals with_reducible rfl
        simp only [Act.put, List.setIfInBounds_toArray, List.set_cons_zero, List.set_cons_succ]
        refine wpAnyT_ready (rs := [6]) (by kernel_rfl) (by simp) ?_
        refine AllReadyT.cons (i := 6) (o := _) rfl (fun K hK => ?_) ?_
        · refine step_run (by rfl) (.tmp 84) (.tmp 88) 23 (by rfl) _ _ (by rfl) (by rfl) _ (fun ty => run_joinV O0.out.2 S1.out (by omega) O0.out.1 ty) (fun v9 W9 hR => ?_)
          obtain ⟨ho9, hg9⟩ := hR
          obtain ⟨m16, hm9⟩ : ∃ m, 0 + i = m := ⟨_, rfl⟩
          rw [hm9] at ho9
          have Hm16 := hidI hm9
          clear hm9
          obtain ⟨la9, lc9, rfl, -, -, -, -⟩ := own_form ho9
          have O9 := hidI ho9
          have G9 := hidI hg9
          refine hK.out _ _ (hHeld.grown hg9 (fun k e => (O0.out.2.lt k e).1)) (fun hHeld2 => ?_)
          clear ho9 hg9
          clear hK K
          replace hHeld := hHeld2
          clear hHeld2
          try simp only [Act.put, List.setIfInBounds_toArray, List.set_cons_zero, List.set_cons_succ]
          refine wpAnyT_take (i := 7) (v := ?_) [8] (oi := _) rfl (by kernel_rfl) (by kernel_rfl) (by kernel_rfl) (by kernel_rfl) (fun _ _ _ h => h) (Or.inl ⟨by rfl, ?_⟩) hHeld ?_
          rotate_left
          · intro wS hSw
            go_simp
            all_goals with_reducible rfl
          simp only [Act.put, List.setIfInBounds_toArray, List.set_cons_zero, List.set_cons_succ]
          obtain ⟨o0, o1, o2, o3, o4, f0, f1, f2, f3, f4⟩ := hHeld.2.1.c
          clear hHeld
          refine wpAnyT_last (i := 8) (o := _) (by kernel_rfl) (by rfl) rfl (fun K hK => ?_)
          go_simp
          refine hK.out _ _ ?_
          clear hK K
          try simp only [Act.put, List.setIfInBounds_toArray, List.set_cons_zero, List.set_cons_succ]
          refine wpAnyT_done (by kernel_rfl) ?_ _
          obtain ⟨W16, hW16⟩ : ∃ W, W9.setCell ⟨w6q.heap.size, 4, none⟩ (.slice la9 m16 lc9) = W := ⟨_, rfl⟩
          rw [hW16]
          have A16 : Hid (AL w t x a1 (some ⟨b, off, none⟩) a7 a8 c1 c2 c7 c8 w6q.heap.size la9 m16 lc9 _ W16) := hidI (by rw [← hW16]; exact (A0.out.bel (bel_drewN _ 1)).push O9.out G9.out)
          clear hW16 O9 G9 A0 O0 O0b S1
          obtain ⟨gg, cap, W17, hR17, ho17, hg17, -⟩ := run_pushV (A16.out.2.alloc (.cells #[.int .i64 x.kind, .int .i64 x.n, .string ⟨x.s.toArray⟩, .slice a7 x.keys.length c7, .slice a8 x.l.length c8] 25)) (heap_alloc_new W16 _) (by have := Hm16.out; omega) (by have := A16.out.lt; simp; omega) 23
          have B17 := hidI (A16.out.1.grown (gb_trans (World.grownBy_alloc W16 _ _) hg17) (fun k e => (A16.out.2.lt k e).1))
          obtain ⟨u0, u1, u2, u3, u4, -⟩ := A16.out.1.1.2.1.c
          obtain ⟨v0, v1, v2, v3, v4, -⟩ := A16.out.1.2.1.c
          obtain ⟨o0, o1, o2, o3, o4, f0, f1, f2, f3, f4⟩ := B17.out.2.1.c
          obtain ⟨W18, hW18⟩ : ∃ W, W17.setCell ⟨w6q.heap.size, 4, none⟩ (.slice (some ⟨gg, 0, none⟩) (m16 + 1) cap) = W := ⟨_, rfl⟩
          have A17 : Hid (AL w t x a1 (some ⟨b, off, none⟩) a7 a8 c1 c2 c7 c8 w6q.heap.size (some ⟨gg, 0, none⟩) (m16 + 1) cap _ W18) := hidI (by rw [← hW18]; exact A16.out.push ho17 (gb_trans (World.grownBy_alloc W16 _ _) hg17))
          clear ho17 hg17 B17 A16
          go_upto_region 18 with (at_builtin; go_must (refine Lib.wpList_append_run _ rfl _ _ _ _ rfl (.slice la9 m16 lc9) (.slice (some ⟨W16.heap.size, 0, none⟩) 1 1) rfl rfl _ _ hR17 ?_))
          try rw [hW18]
          clear hW18 hR17 u0 u1 u2 u3 u4 v0 v1 v2 v3 v4 o0 o1 o2 o3 o4 f0 f1 f2 f3 f4
          have O17 := hidI (And.intro (show w6q.heap.size + 1 ≤ W18.drew.heap.size by have := A17.out.lt; simpa using this) (A17.out.bel (bel_drewN _ 1)).2)
          have O17b := hidI A17.out.1
          have S3 := hidI (SL.out.2.bel ((A17.out.1.1.bel (bel_drewN _ 1)).2.2.2))
          refine wp_region_T (fun wS => AB w t x a1 (some ⟨b, off, none⟩) a7 a8 c1 c2 c7 c8 w6q.heap.size (some ⟨gg, 0, none⟩) (m16 + 1) cap wS) [8] (by kernel_rfl) ((O17b).out.bel (bel_drewN _ 1)) (fun hHeld => ?_)
          refine wpAnyT_take (i := 0) (v := ?_) [1, 6, 7, 8] (oi := _) rfl (by kernel_rfl) (by kernel_rfl) (by kernel_rfl) (by kernel_rfl) (fun _ _ _ h => h) (Or.inl ⟨by rfl, ?_⟩) hHeld ?_
          rotate_left
          · intro wS hSw
            go_simp
            all_goals with_reducible rfl
          simp only [Act.put, List.setIfInBounds_toArray, List.set_cons_zero, List.set_cons_succ]
          refine wpAnyT_take (i := 1) (v := ?_) [6, 7, 8] (oi := _) rfl (by kernel_rfl) (by kernel_rfl) (by kernel_rfl) (by kernel_rfl) (fun _ _ _ h => h) (Or.inl ⟨by rfl, ?_⟩) hHeld ?_
          rotate_left
          · intro wS hSw
            obtain ⟨u0, u1, u2, u3, u4, -⟩ := hSw.1.1.c
            obtain ⟨v0, v1, v2, v3, v4, -⟩ := hSw.2.1.c
            go_simp
            all_goals with_reducible rfl
          simp only [Act.put, List.setIfInBounds_toArray, List.set_cons_zero, List.set_cons_succ]
          refine wpAnyT_take (i := 2) (v := ?_) [3, 5, 6, 7, 8] (oi := _) rfl (by kernel_rfl) (by kernel_rfl) (by kernel_rfl) (by kernel_rfl) (fun _ _ _ h => h) (Or.inl ⟨by rfl, ?_⟩) hHeld ?_
          rotate_left
          · intro wS hSw
            go_simp
            all_goals with_reducible rfl
          simp only [Act.put, List.setIfInBounds_toArray, List.set_cons_zero, List.set_cons_succ]
          refine wpAnyT_take (i := 3) (v := ?_) [5, 6, 7, 8] (oi := _) rfl (by kernel_rfl) (by kernel_rfl) (by kernel_rfl) (by kernel_rfl) (fun _ _ _ h => h) (Or.inl ⟨by rfl, ?_⟩) hHeld ?_
          rotate_left
          · intro wS hSw
            obtain ⟨u0, u1, u2, u3, u4, -⟩ := hSw.1.1.c
            obtain ⟨v0, v1, v2, v3, v4, -⟩ := hSw.2.1.c
            go_simp
            all_goals with_reducible rfl
          simp only [Act.put, List.setIfInBounds_toArray, List.set_cons_zero, List.set_cons_succ]
          refine wpAnyT_take (i := 4) (v := ?_) [5, 6, 7, 8] (oi := _) rfl (by kernel_rfl) (by kernel_rfl) (by kernel_rfl) (by kernel_rfl) (fun _ _ _ h => h) (Or.inl ⟨by rfl, ?_⟩) hHeld ?_
          rotate_left
          · intro wS hSw
            go_simp
            all_goals with_reducible rfl
          simp only [Act.put, List.setIfInBounds_toArray, List.set_cons_zero, List.set_cons_succ]
          refine wpAnyT_take (i := 5) (v := ?_) [6, 7, 8] (oi := _) rfl (by kernel_rfl) (by kernel_rfl) (by kernel_rfl) (by kernel_rfl) (fun _ _ _ h => h) (Or.inl ⟨by rfl, ?_⟩) hHeld ?_
          rotate_left
          · intro wS hSw
            go_simp
            all_goals with_reducible rfl
          simp only [Act.put, List.setIfInBounds_toArray, List.set_cons_zero, List.set_cons_succ]
          refine wpAnyT_ready (rs := [6]) (by kernel_rfl) (by simp) ?_
          refine AllReadyT.cons (i := 6) (o := _) rfl (fun K hK => ?_) ?_
          · refine step_run (by rfl) (.tmp 98) (.tmp 102) 23 (by rfl) _ _ (by rfl) (by rfl) _ (fun ty => run_joinV O17.out.2 S3.out (by have := Hm16.out; omega) O17.out.1 ty) (fun v9 W9 hR => ?_)
            obtain ⟨ho9, hg9⟩ := hR
            obtain ⟨m18, hm9⟩ : ∃ m, m16 + 1 + (t.l.length - i) = m := ⟨_, rfl⟩
            rw [hm9] at ho9
            have Hm18 := hidI hm9
            clear hm9
            obtain ⟨la9, lc9, rfl, -, -, -, -⟩ := own_form ho9
            have O9 := hidI ho9
            have G9 := hidI hg9
            refine hK.out _ _ (hHeld.grown hg9 (fun k e => (O17.out.2.lt k e).1)) (fun hHeld2 => ?_)
            clear ho9 hg9
            clear hK K
            replace hHeld := hHeld2
            clear hHeld2
            try simp only [Act.put, List.setIfInBounds_toArray, List.set_cons_zero, List.set_cons_succ]
            refine wpAnyT_take (i := 7) (v := ?_) [8] (oi := _) rfl (by kernel_rfl) (by kernel_rfl) (by kernel_rfl) (by kernel_rfl) (fun _ _ _ h => h) (Or.inl ⟨by rfl, ?_⟩) hHeld ?_
            rotate_left
            · intro wS hSw
              go_simp
              all_goals with_reducible rfl
            simp only [Act.put, List.setIfInBounds_toArray, List.set_cons_zero, List.set_cons_succ]
            obtain ⟨o0, o1, o2, o3, o4, f0, f1, f2, f3, f4⟩ := hHeld.2.1.c
            clear hHeld
            refine wpAnyT_last (i := 8) (o := _) (by kernel_rfl) (by rfl) rfl (fun K hK => ?_)
            go_simp
            refine hK.out _ _ ?_
            clear hK K
            try simp only [Act.put, List.setIfInBounds_toArray, List.set_cons_zero, List.set_cons_succ]
            refine wpAnyT_done (by kernel_rfl) ?_ _
            obtain ⟨W18, hW18⟩ : ∃ W, W9.setCell ⟨w6q.heap.size, 4, none⟩ (.slice la9 m18 lc9) = W := ⟨_, rfl⟩
            rw [hW18]
            have A18 : Hid (AL w t x a1 (some ⟨b, off, none⟩) a7 a8 c1 c2 c7 c8 w6q.heap.size la9 m18 lc9 _ W18) := hidI (by rw [← hW18]; exact (A17.out.bel (bel_drewN _ 1)).push O9.out G9.out)
            clear hW18 O9 G9 A17 O17 O17b S3
            have hlen : m18 = (t.l.take i ++ x :: t.l.drop i).length := by have := Hm18.out; have := Hm16.out; simp; omega
            have R := hidI (A18.out.fin (ok := ok) RW.out hlen (by rw [← hlen]; have := Hm18.out; have := Hm16.out; omega))
            clear hlen
            obtain ⟨u0, u1, u2, u3, u4, -⟩ := A18.out.1.2.1.c
            obtain ⟨o0, o1, o2, o3, o4, f0, f1, f2, f3, f4⟩ := A18.out.1.1.2.2.1.c
            go_wp2_with fail
            obtain ⟨r1, r2, r3⟩ := R.out
            obtain ⟨z0, z1, z2, z3, z4, -⟩ := r3.c
            refine bodyPost_ret (v := .tuple #[.agg #[.int .i64 4, .int .i64 0, .string ⟨#[]⟩, .slice none 0 0, .slice la9 m18 lc9], .int .i64 0]) ?_ rfl ?_
            · simp only [set5] at z0 z1 z2 z3 z4
              simp [results, Tryd.results31, go_sem, z0, z1, z2, z3, z4]
            · exact ⟨_, rfl, r1, by first | (rw [LI.out]; exact r2) | (have h9 := LI.out; simp only [List.take_zero, List.drop_zero, List.nil_append] at h9 r2 ⊢; rw [h9]; exact r2) | (have h9 := LI.out; simp at h9 r2 ⊢; rw [h9]; exact r2)⟩
          exact AllReadyT.nil
        exact AllReadyT.nil
      exact AllReadyT.nil
set_option maxRecDepth 100000 in
set_option maxHeartbeats 40000000 in
theorem alter1_place (w : World) (ok oks : Nat → Prop) (t x : V) (v xv nv : Value) (s : List UInt8) (h : In w ok t v) (hx : In w ok x xv) (hn : Nice t) (hnv : StrsAre w oks [s] nv) (h4 : t.kind = 4) (hp : placeP t.l.length s = none) :
    Calls Tryd.prog 31 #[.int .i64 1, v, nv, xv] w fun e w' => ∃ r, e = .returned (.tuple #[r, .int .i64 3]) ∧ Below w.heap.size w w' ∧ In w' (okN ok w.heap.size) (t) r := by
  obtain ⟨nb, no, nc, rfl, n1, n2, n3, n4⟩ := strs_head hnv
  simp only [List.length_nil, Nat.zero_add] at n1 ⊢
  have H := hidI h.low
  have HX := hidI hx.low
  have HN := hidI hn
  obtain ⟨l1, l2, l3⟩ := h.lens
  obtain ⟨a1, a2, c1, c2, rfl⟩ := h.form
  obtain ⟨a7, a8, c7, c8, rfl⟩ := hx.form
  have hsz := nice_len hn
  have g0 : ∀ o1 o2 o3, (((w.alloc o1).alloc o2).alloc o3).cell? ⟨nb, no, none⟩ = some (.string ⟨s.toArray⟩) := fun o1 o2 o3 => cell_bel (bel_trans (bel_trans (bel_alloc _ _) (bel_alloc _ _)) (bel_alloc _ o3)) n4
  have con1 : Hid (∀ W, W.heap = (((w.alloc (.cells #[.int .i64 t.kind, .int .i64 t.n, .string ⟨t.s.toArray⟩, .slice a1 t.keys.length c1, .slice a2 t.l.length c2] 25)).alloc (.cells #[.int .i64 x.kind, .int .i64 x.n, .string ⟨x.s.toArray⟩, .slice a7 x.keys.length c7, .slice a8 x.l.length c8] 25)).alloc (.cells #[.int .i64 0, .int .i64 0, .string ⟨#[]⟩, .slice none 0 0, .slice none 0 0] 25)).heap → W.os = w.os → W.tape = w.tape → W.output = w.output → Calls Tryd.prog 28 #[.agg #[.int .i64 t.kind, .int .i64 t.n, .string ⟨t.s.toArray⟩, .slice a1 t.keys.length c1, .slice a2 t.l.length c2], .string ⟨s.toArray⟩] W fun e w' => e = .returned (.int .i64 (optI (atV t s))) ∧ KA w t x a1 a2 a7 a8 c1 c2 c7 c8 w') := by
    intro W e1 e2 e3 e4
    have hbW := bel_of3 e1 e2 e3 e4
    refine (rkid_is W (fun k => ok k ∧ k < w.heap.size) t _ s (H.out.bel hbW) (fun h5 => by have := nice_paired HN.out h5; simp only [pairedV, Bool.and_eq_true, decide_eq_true_eq] at this; omega)).mono ?_
    rintro e w1 ⟨rfl, hb1⟩
    exact ⟨rfl, box_bel hb1 (by unfold BoxIs; rw [e1]; exact h3a w _ _ _), box_bel hb1 (by unfold BoxIs; rw [e1]; exact h3b w _ _ _), box_bel hb1 (by unfold BoxIs; rw [e1]; exact h3c w _ _ _), bel_trans hbW hb1⟩
  have N4 := hidI n4
  have q5 : (t.kind == 5) = false := by simp [h4]
  have q4 : (t.kind == 4) = true := by simp [h4]
  have HP := hidI hp
  clear hp h4
  clear h hx hn n4 hnv
  have e11 : ¬ (1 : Int) < 1 := by omega
  go_enter Tryd.func31, Tryd.ntmps31
  go_upto_region 1 with fail
  go_cut [10] (fun p wc => p = .int .i64 (optI (atV t s)) ∧ KA w t x a1 a2 a7 a8 c1 c2 c7 c8 wc)
  case first =>
    go_region_with ((go_at_call 28; refine (con1.out _ (by rfl) (by rfl) (by rfl) (by rfl)).mono ?_; rintro e w1 ⟨rfl, hfin⟩; have FIN := hidI hfin; clear hfin))
    all_goals
      go_wp2_with fail
      go_meet
      case rel => exact ⟨rfl, FIN.out⟩
  case rest =>
    obtain ⟨wa, hwa⟩ : ∃ wa, wa = wc := ⟨_, rfl⟩
    subst hwa
    obtain ⟨rfl, k0⟩ := hcut
    have K := hidI k0
    clear con1 g0 k0
    have hk3 := K.out.big
    obtain ⟨p0, p1, p2, p3, p4, -⟩ := K.out.1.c
    go_upto_region 12 with fail
    clear p0 p1 p2 p3 p4
    refine wp_region_T (fun wS => KA w t x a1 a2 a7 a8 c1 c2 c7 c8 wS) [] (by kernel_rfl) (K.out.bel (bel_drewN _ 1)) (fun hHeld => ?_)
    refine wpAnyT_take (i := 0) (v := ?_) [] (oi := _) rfl (by kernel_rfl) (by kernel_rfl) (by kernel_rfl) (by kernel_rfl) (fun _ _ _ h => h) (Or.inl ⟨by rfl, ?_⟩) hHeld ?_
    rotate_left
    · intro wS hSw
      go_simp
      all_goals with_reducible rfl
    simp only [Act.put, List.setIfInBounds_toArray, List.set_cons_zero, List.set_cons_succ]
    refine wpAnyT_take (i := 1) (v := ?_) [] (oi := _) rfl (by kernel_rfl) (by kernel_rfl) (by kernel_rfl) (by kernel_rfl) (fun _ _ _ h => h) (Or.inl ⟨by rfl, ?_⟩) hHeld ?_
    rotate_left
    · intro wS hSw
      go_simp
      all_goals with_reducible rfl
    simp only [Act.put, List.setIfInBounds_toArray, List.set_cons_zero, List.set_cons_succ]
    refine wpAnyT_take (i := 2) (v := ?_) [] (oi := _) rfl (by kernel_rfl) (by kernel_rfl) (by kernel_rfl) (by kernel_rfl) (fun _ _ _ h => h) (Or.inl ⟨by rfl, ?_⟩) hHeld ?_
    rotate_left
    · intro wS hSw
      obtain ⟨u0, u1, u2, u3, u4, -⟩ := hSw.1.c
      have nn := cell_bel hSw.2.2.2 N4.out
      go_simp
      all_goals with_reducible rfl
    simp only [Act.put, List.setIfInBounds_toArray, List.set_cons_zero, List.set_cons_succ]
    refine wpAnyT_take (i := 3) (v := ?_) [] (oi := _) rfl (by kernel_rfl) (by kernel_rfl) (by kernel_rfl) (by kernel_rfl) (fun _ _ _ h => h) (Or.inl ⟨by rfl, ?_⟩) hHeld ?_
    rotate_left
    · intro wS hSw
      go_simp
      all_goals with_reducible rfl
    simp only [Act.put, List.setIfInBounds_toArray, List.set_cons_zero, List.set_cons_succ]
    refine wpAnyT_take (i := 4) (v := ?_) [] (oi := _) rfl (by kernel_rfl) (by kernel_rfl) (by kernel_rfl) (by kernel_rfl) (fun _ _ _ h => h) (Or.inl ⟨by rfl, ?_⟩) hHeld ?_
    rotate_left
    · intro wS hSw
      obtain ⟨u0, u1, u2, u3, u4, -⟩ := hSw.1.c
      have nn := cell_bel hSw.2.2.2 N4.out
      go_simp
      all_goals with_reducible rfl
    simp only [Act.put, List.setIfInBounds_toArray, List.set_cons_zero, List.set_cons_succ]
    refine wpAnyT_take (i := 5) (v := ?_) [] (oi := _) rfl (by kernel_rfl) (by kernel_rfl) (by kernel_rfl) (by kernel_rfl) (fun _ _ _ h => h) (Or.inl ⟨by rfl, ?_⟩) hHeld ?_
    rotate_left
    · intro wS hSw
      go_simp
      all_goals with_reducible rfl
    simp only [Act.put, List.setIfInBounds_toArray, List.set_cons_zero, List.set_cons_succ]
    refine wpAnyT_ready (rs := [6]) (by kernel_rfl) (by simp) ?_
    refine AllReadyT.cons (i := 6) (o := _) rfl (fun K hK => ?_) ?_
    · go_simp
      refine (rplace_is _ s t.l.length l2).mono ?_
      rintro e w6q ⟨rfl, hb⟩
      rw [HP.out]
      have eo : optI none = -1 := rfl
      rw [eo]
      clear eo
      refine hK.out _ _ (hHeld.bel hb) (fun hHeld2 => ?_)
      clear hb
      clear hK K
      replace hHeld := hHeld2
      clear hHeld2
      try simp only [Act.put, List.setIfInBounds_toArray, List.set_cons_zero, List.set_cons_succ]
      refine wpAnyT_take (i := 7) (v := ?_) [] (oi := _) rfl (by kernel_rfl) (by kernel_rfl) (by kernel_rfl) (by kernel_rfl) (fun _ _ _ h => h) (Or.inl ⟨by rfl, ?_⟩) hHeld ?_
      rotate_left
      · intro wS hSw
        go_simp
        all_goals with_reducible rfl
      simp only [Act.put, List.setIfInBounds_toArray, List.set_cons_zero, List.set_cons_succ]
      refine wpAnyT_done (by kernel_rfl) ?_ _
      have K9 := hidI hHeld
      clear hHeld
      obtain ⟨p0, p1, p2, p3, p4, -⟩ := K9.out.1.c
      obtain ⟨x0, x1, x2, x3, x4, y0, y1, y2, y3, y4⟩ := K9.out.2.2.1.c
      have Z : Hid (_ ∧ _) := hidI (set_out (C := w6q.heap.size) (g := w.heap.size + 2) ((H.out.bel K9.out.2.2.2).weak (lowN_low (C := w6q.heap.size))) K9.out.2.2.2 (by omega) K9.out.2.2.1.lt)
      have ZB : Hid _ := hidI (K9.out.2.2.1.set (.int .i64 t.kind) (.int .i64 t.n) (.string ⟨t.s.toArray⟩) (.slice a1 t.keys.length c1) (.slice a2 t.l.length c2))
      go_wp2_with fail
      obtain ⟨z0, z1, z2, z3, z4, -⟩ := ZB.out.c
      refine bodyPost_ret (v := .tuple #[.agg #[.int .i64 t.kind, .int .i64 t.n, .string ⟨t.s.toArray⟩, .slice a1 t.keys.length c1, .slice a2 t.l.length c2], .int .i64 3]) ?_ rfl ?_
      · simp only [set5] at z0 z1 z2 z3 z4
        simp [results, Tryd.results31, go_sem, z0, z1, z2, z3, z4]
      · exact ⟨_, rfl, Z.out.1, Z.out.2⟩
    exact AllReadyT.nil
end Go.Proofs.YtaifciobaapehaaDoor

/- What alter of package stairwellref does: a list that shrinks; all. -/
set_option linter.unusedSimpArgs false
set_option linter.unusedVariables false
namespace Go.Proofs.YtaifciobaapehaaDoor
open Go.RowKit

theorem erase_at {l : List V} {k : Nat} (h : k < l.length) : (l.take (k + 1)).eraseIdx k = (l.take k).eraseIdx k := by
  rw [List.take_succ_eq_append_getElem h, List.eraseIdx_append_of_length_le (by simp; omega), List.eraseIdx_of_length_le (l := l.take k) (by simp; omega)]
  simp [show k - min k l.length = 0 by omega]
theorem erase_far {l : List V} {k i : Nat} (h : k < l.length) (hne : k ≠ i) : (l.take (k + 1)).eraseIdx i = (l.take k).eraseIdx i ++ [l[k]] := by
  rw [List.take_succ_eq_append_getElem h]
  by_cases hik : i < k
  · rw [List.eraseIdx_append_of_lt_length (by simp; omega)]
  · rw [List.eraseIdx_append_of_length_le (by simp; omega), List.eraseIdx_of_length_le (l := l.take k) (by simp; omega), List.eraseIdx_of_length_le (l := [l[k]]) (by simp; omega)]
theorem at_kind {t : V} {s : List UInt8} {i : Nat} (h : atV t s = some i) : t.kind = 5 ∨ t.kind = 4 := by
  unfold atV at h
  split at h
  · rename_i e; exact .inr e
  · unfold findV at h
    split at h
    · rename_i e; simp only [pairedV, Bool.and_eq_true, decide_eq_true_eq] at e; exact .inl e.1
    · cases h
set_option maxRecDepth 100000 in
set_option maxHeartbeats 40000000 in
theorem alter2_list (w : World) (ok oks : Nat → Prop) (t x : V) (v xv nv : Value) (s : List UInt8) (h : In w ok t v) (hx : In w ok x xv) (hn : Nice t) (hnv : StrsAre w oks [s] nv) (i : Nat) (ha : atV t s = some i) (h4 : t.kind = 4) :
    Calls Tryd.prog 31 #[.int .i64 2, v, nv, xv] w fun e w' => ∃ r, e = .returned (.tuple #[r, .int .i64 0]) ∧ Below w.heap.size w w' ∧ In w' (okN ok w.heap.size) ({ t with l := t.l.take i ++ t.l.drop (i + 1) }) r := by
  obtain ⟨nb, no, nc, rfl, n1, n2, n3, n4⟩ := strs_head hnv
  simp only [List.length_nil, Nat.zero_add] at n1 ⊢
  have H := hidI h.low
  have HX := hidI hx.low
  have HN := hidI hn
  obtain ⟨l1, l2, l3⟩ := h.lens
  obtain ⟨a1, a2, c1, c2, rfl⟩ := h.form
  obtain ⟨a7, a8, c7, c8, rfl⟩ := hx.form
  have hsz := nice_len hn
  have g0 : ∀ o1 o2 o3, (((w.alloc o1).alloc o2).alloc o3).cell? ⟨nb, no, none⟩ = some (.string ⟨s.toArray⟩) := fun o1 o2 o3 => cell_bel (bel_trans (bel_trans (bel_alloc _ _) (bel_alloc _ _)) (bel_alloc _ o3)) n4
  have con1 : Hid (∀ W, W.heap = (((w.alloc (.cells #[.int .i64 t.kind, .int .i64 t.n, .string ⟨t.s.toArray⟩, .slice a1 t.keys.length c1, .slice a2 t.l.length c2] 25)).alloc (.cells #[.int .i64 x.kind, .int .i64 x.n, .string ⟨x.s.toArray⟩, .slice a7 x.keys.length c7, .slice a8 x.l.length c8] 25)).alloc (.cells #[.int .i64 0, .int .i64 0, .string ⟨#[]⟩, .slice none 0 0, .slice none 0 0] 25)).heap → W.os = w.os → W.tape = w.tape → W.output = w.output → Calls Tryd.prog 28 #[.agg #[.int .i64 t.kind, .int .i64 t.n, .string ⟨t.s.toArray⟩, .slice a1 t.keys.length c1, .slice a2 t.l.length c2], .string ⟨s.toArray⟩] W fun e w' => e = .returned (.int .i64 (optI (atV t s))) ∧ KA w t x a1 a2 a7 a8 c1 c2 c7 c8 w') := by
    intro W e1 e2 e3 e4
    have hbW := bel_of3 e1 e2 e3 e4
    refine (rkid_is W (fun k => ok k ∧ k < w.heap.size) t _ s (H.out.bel hbW) (fun h5 => by have := nice_paired HN.out h5; simp only [pairedV, Bool.and_eq_true, decide_eq_true_eq] at this; omega)).mono ?_
    rintro e w1 ⟨rfl, hb1⟩
    exact ⟨rfl, box_bel hb1 (by unfold BoxIs; rw [e1]; exact h3a w _ _ _), box_bel hb1 (by unfold BoxIs; rw [e1]; exact h3b w _ _ _), box_bel hb1 (by unfold BoxIs; rw [e1]; exact h3c w _ _ _), bel_trans hbW hb1⟩
  have N4 := hidI n4
  have AT := hidI ha
  have hi : i < t.l.length := at_lt ha
  have qa : (t.kind == 5) = false := by simp [h4]
  have qb : (t.kind == 4) = true := by simp [h4]
  obtain ⟨d, hd, -⟩ := h.low.two hx.low
  obtain ⟨ks, ls, e9, -, -, -, -, h5⟩ := hd
  simp only [Value.agg.injEq, Array.mk.injEq, List.cons.injEq, and_true] at e9
  obtain ⟨-, -, -, -, rfl⟩ := e9
  have V5 := hidI h5
  have LI : Hid ({ t with l := t.l.take i ++ t.l.drop (i + 1) } = (⟨4, 0, [], [], t.l.eraseIdx i⟩ : V)) := hidI (by rw [list_is hn h4, List.eraseIdx_eq_take_drop_succ])
  clear ha h5 h4
  clear h hx hn n4 hnv
  have e11 : ¬ (1 : Int) < 1 := by omega
  go_enter Tryd.func31, Tryd.ntmps31
  go_upto_region 1 with fail
  go_cut [10] (fun p wc => p = .int .i64 (optI (atV t s)) ∧ KA w t x a1 a2 a7 a8 c1 c2 c7 c8 wc)
  case first =>
    go_region_with ((go_at_call 28; refine (con1.out _ (by rfl) (by rfl) (by rfl) (by rfl)).mono ?_; rintro e w1 ⟨rfl, hfin⟩; have FIN := hidI hfin; clear hfin))
    all_goals
      go_wp2_with fail
      go_meet
      case rel => exact ⟨rfl, FIN.out⟩
  case rest =>
    obtain ⟨wa, hwa⟩ : ∃ wa, wa = wc := ⟨_, rfl⟩
    subst hwa
    obtain ⟨rfl, k0⟩ := hcut
    have K := hidI k0
    clear con1 g0 k0
    have hk3 := K.out.big
    obtain ⟨p0, p1, p2, p3, p4, -⟩ := K.out.1.c
    obtain ⟨q0, q1, q2, q3, q4, -⟩ := K.out.2.1.c
    obtain ⟨x0, x1, x2, x3, x4, y0, y1, y2, y3, y4⟩ := K.out.2.2.1.c
    have eo : optI (some i) = (i : Int) := rfl
    rw [AT.out, eo]
    clear eo
    have v1 : ¬ (i : Int) < 0 := by omega
    have A0 : Hid (AL w t x a1 a2 a7 a8 c1 c2 c7 c8 wa.heap.size none 0 0 [] (wa.alloc (.cells #[.int .i64 4, .int .i64 0, .string ⟨#[]⟩, .slice none 0 0, .slice none 0 0] 25))) := hidI ⟨⟨K.out.bel (bel_alloc _ _), heap_alloc_new wa _, by omega⟩, World.ownsRow_nil _ _ _ _⟩
    go_upto_region 27 with fail
    clear p0 p1 p2 p3 p4 q0 q1 q2 q3 q4 x0 x1 x2 x3 x4 y0 y1 y2 y3 y4
    obtain ⟨p0, p1, p2, p3, p4, -⟩ := A0.out.1.1.1.c
    go_wp2_with fail
    clear p0 p1 p2 p3 p4
    go_loopg [16, 17, 134] t.l.length (fun gk _ _ idx wr => ∃ (k : Nat) (la : Option Addr) (n lc : Nat) (cs : List Value), k ≤ t.l.length ∧ Hid (gk = t.l.length - k) ∧ idx = .int .i64 k ∧ Hid (AL w t x a1 a2 a7 a8 c1 c2 c7 c8 wa.heap.size la n lc cs wr ∧ RowV (VIs w (fun k => ok k ∧ k < w.heap.size) d) ((t.l.take k).eraseIdx i) cs ∧ n = ((t.l.take k).eraseIdx i).length))
    case atStart => exact ⟨0, none, 0, 0, [], Nat.zero_le _, hidI rfl, rfl, hidI ⟨A0.out, by simp [RowV], by simp⟩⟩
    case round =>
      obtain ⟨k, la, n, lc, cs, hk, GK, rfl, A1⟩ := hrel
      by_cases hlt : k < t.l.length
      · obtain ⟨xb, xo, rfl, z1, z2, a5, c5, a6, c6, g0, g1, g2, g3, g4, g5⟩ := vals_at V5.out hlt
        unfold maxLen at z2
        have hbw := A1.out.1.1.1.2.2.2
        replace g0 := cell_bel hbw g0
        replace g1 := cell_bel hbw g1
        replace g2 := cell_bel hbw g2
        replace g3 := cell_bel hbw g3
        replace g4 := cell_bel hbw g4
        clear hbw
        have V6 := hidI g5
        clear g5
        have w1 : (0 : Int) ≤ (k : Int) := by omega
        have w2 : (k : Int) < (t.l.length : Int) := by omega
        have hn9 : n ≤ 1000 := by have := A1.out.2.2; have h9 := List.length_eraseIdx_le (t.l.take k) i; simp at h9; omega
        have A2 := hidI (A1.out.1.bel (bel_alloc wr (.cells #[.int .i64 t.l[k].kind, .int .i64 t.l[k].n, .string ⟨t.l[k].s.toArray⟩, .slice a5 t.l[k].keys.length c5, .slice a6 t.l[k].l.length c6] 25)))
        by_cases hki : k = i
        · have e5 : ((k : Int) != (i : Int)) = false := by simp [hki]
          have E6 : Hid ((t.l.take (k + 1)).eraseIdx i = (t.l.take k).eraseIdx i) := hidI (by rw [← hki]; exact erase_at hlt)
          clear hki
          go_wp2_with fail
          go_roundg (t.l.length - (k + 1))
          case measure => rw [GK.out]; omega
          case rel => exact ⟨k + 1, la, n, lc, cs, hlt, hidI rfl, by go_num, hidI ⟨A2.out, by rw [E6.out]; exact A1.out.2.1, by rw [E6.out]; exact A1.out.2.2⟩⟩
        · have e5 : ((k : Int) != (i : Int)) = true := by rw [bne_iff_ne]; omega
          have E6 : Hid ((t.l.take (k + 1)).eraseIdx i = (t.l.take k).eraseIdx i ++ [t.l[k]]) := hidI (erase_far hlt hki)
          clear hki
          have Y1 : Hid (BoxIs (wr.alloc (.cells #[.int .i64 t.l[k].kind, .int .i64 t.l[k].n, .string ⟨t.l[k].s.toArray⟩, .slice a5 t.l[k].keys.length c5, .slice a6 t.l[k].l.length c6] 25)) wr.heap.size (.int .i64 t.l[k].kind) (.int .i64 t.l[k].n) (.string ⟨t.l[k].s.toArray⟩) (.slice a5 t.l[k].keys.length c5) (.slice a6 t.l[k].l.length c6)) := hidI (heap_alloc_new wr _)
          obtain ⟨gg, cap, W17, hR17, ho17, hg17, -⟩ := run_pushV (A2.out.2.alloc (.cells #[.int .i64 t.l[k].kind, .int .i64 t.l[k].n, .string ⟨t.l[k].s.toArray⟩, .slice a5 t.l[k].keys.length c5, .slice a6 t.l[k].l.length c6] 25)) (heap_alloc_new (wr.alloc (.cells #[.int .i64 t.l[k].kind, .int .i64 t.l[k].n, .string ⟨t.l[k].s.toArray⟩, .slice a5 t.l[k].keys.length c5, .slice a6 t.l[k].l.length c6] 25)) _) (by omega) (by have := A2.out.lt; simp at this ⊢; omega) 23
          have e9 : (wr.alloc (.cells #[.int .i64 t.l[k].kind, .int .i64 t.l[k].n, .string ⟨t.l[k].s.toArray⟩, .slice a5 t.l[k].keys.length c5, .slice a6 t.l[k].l.length c6] 25)).heap.size = wr.heap.size + 1 := by simp
          rw [e9] at hR17
          clear e9
          have B17 := hidI (A2.out.1.grown (gb_trans (World.grownBy_alloc (wr.alloc (.cells #[.int .i64 t.l[k].kind, .int .i64 t.l[k].n, .string ⟨t.l[k].s.toArray⟩, .slice a5 t.l[k].keys.length c5, .slice a6 t.l[k].l.length c6] 25)) _ _) hg17) (fun k e => (A2.out.2.lt k e).1))
          have A17 := hidI (A2.out.push ho17 (gb_trans (World.grownBy_alloc (wr.alloc (.cells #[.int .i64 t.l[k].kind, .int .i64 t.l[k].n, .string ⟨t.l[k].s.toArray⟩, .slice a5 t.l[k].keys.length c5, .slice a6 t.l[k].l.length c6] 25)) _ _) hg17))
          obtain ⟨u0, u1, u2, u3, u4, -⟩ := Y1.out.c
          obtain ⟨v0, v1, v2, v3, v4, -⟩ := A2.out.1.2.1.c
          obtain ⟨o0, o1, o2, o3, o4, f0, f1, f2, f3, f4⟩ := B17.out.2.1.c
          clear ho17 hg17 B17
          go_wp2_with (at_builtin; go_must (refine Lib.wpList_append_run _ rfl _ _ _ _ rfl (.slice la n lc) (.slice (some ⟨wr.heap.size + 1, 0, none⟩) 1 1) rfl rfl _ _ hR17 ?_))
          go_roundg (t.l.length - (k + 1))
          case measure => rw [GK.out]; omega
          case rel => exact ⟨k + 1, some ⟨gg, 0, none⟩, n + 1, cap, _, hlt, hidI rfl, by go_num, hidI ⟨A17.out, by rw [E6.out]; exact RowV.append (show RowV (VIs w (fun k => ok k ∧ k < w.heap.size) d) [t.l[k]] [.int .i64 t.l[k].kind, .int .i64 t.l[k].n, .string ⟨t.l[k].s.toArray⟩, .slice a5 t.l[k].keys.length c5, .slice a6 t.l[k].l.length c6] from ⟨_, _, _, _, _, [], rfl, V6.out, rfl⟩) A1.out.2.1, by rw [E6.out, A1.out.2.2]; simp⟩⟩
      · have dd : ¬ (k : Int) < (t.l.length : Int) := by omega
        have E6 : Hid ((t.l.take k).eraseIdx i = t.l.eraseIdx i) := hidI (by rw [List.take_of_length_le (by omega)])
        have R := hidI (A1.out.1.fin (ok := ok) A1.out.2.1 A1.out.2.2 (by have h9 := List.length_eraseIdx_le (t.l.take k) i; simp at h9; omega))
        obtain ⟨u0, u1, u2, u3, u4, -⟩ := A1.out.1.1.2.1.c
        obtain ⟨o0, o1, o2, o3, o4, f0, f1, f2, f3, f4⟩ := A1.out.1.1.1.2.2.1.c
        go_wp2_with fail
        obtain ⟨r1, r2, r3⟩ := R.out
        obtain ⟨z0, z1, z2, z3, z4, -⟩ := r3.c
        refine bodyPost_ret (v := .tuple #[.agg #[.int .i64 4, .int .i64 0, .string ⟨#[]⟩, .slice none 0 0, .slice la n lc], .int .i64 0]) ?_ rfl ?_
        · simp only [set5] at z0 z1 z2 z3 z4
          simp [results, Tryd.results31, go_sem, z0, z1, z2, z3, z4]
        · exact ⟨_, rfl, r1, by rw [LI.out, ← E6.out]; exact r2⟩

theorem removed_atA (t : V) (s : List UInt8) : removedV t s = (atV t s).map fun i => if t.kind = 5 then withoutV t s else { t with l := t.l.take i ++ t.l.drop (i + 1) } := by
  unfold removedV
  rw [meant_at]
  cases ha : atV t s with
  | none => rfl
  | some i =>
    have hi := at_lt ha
    simp only [Option.bind_some, List.getElem?_eq_getElem hi, Option.map_some]
    split
    · rfl
    · rename_i h5
      have h4 : t.kind = 4 := (at_kind ha).resolve_left h5
      rw [atV, if_pos h4] at ha
      obtain ⟨j, hj, hj2⟩ := Option.bind_eq_some_iff.1 ha
      split at hj2
      · cases hj2; rw [hj]; rfl
      · cases hj2
theorem alter_one (kind : Int) (hk : kind = 1 ∨ kind = 2 ∨ kind = 3) (s : List UInt8) : AltC kind [s] := by
  intro w ok oks t x v xv nv h hx hn hnv
  rcases hk with rfl | rfl | rfl
  · rw [show downV (altV 1 x) [s] t = addedV x t s from rfl]
    by_cases h5 : t.kind = 5
    · rw [addedV, if_pos h5]
      exact alter1_object w ok oks t x v xv nv s h hx hn hnv h5
    · rw [addedV, if_neg h5]
      by_cases h4 : t.kind = 4
      · rw [if_pos h4]
        cases hp : placeP t.l.length s with
        | none => exact alter1_place w ok oks t x v xv nv s h hx hn hnv h4 hp
        | some i => exact alter1_list w ok oks t x v xv nv s h hx hn hnv i h4 hp
      · rw [if_neg h4]
        exact alter1_other w ok oks t x v xv nv s h hx hn hnv h5 h4
  · rw [show downV (altV 2 x) [s] t = removedV t s from rfl, removed_atA]
    cases ha : atV t s with
    | none => exact alter2_none w ok oks t x v xv nv s h hx hn hnv ha
    | some i =>
      by_cases h5 : t.kind = 5
      · simp only [Option.map_some, if_pos h5]
        exact alter2_object w ok oks t x v xv nv s h hx hn hnv i ha h5
      · simp only [Option.map_some, if_neg h5]
        exact alter2_list w ok oks t x v xv nv s h hx hn hnv i ha ((at_kind ha).resolve_left h5)
  · rw [show downV (altV 3 x) [s] t = replacedV x t s from rfl, replaced_at]
    cases ha : atV t s with
    | none => exact alter3_none w ok oks t x v xv nv s h hx hn hnv ha
    | some i => exact alter3_some w ok oks t x v xv nv s h hx hn hnv i ha
theorem alter_all (kind : Int) (hk : kind = 1 ∨ kind = 2 ∨ kind = 3) : ∀ (rs : List (List UInt8)) (s : List UInt8), AltC kind (s :: rs)
  | [], s => alter_one kind hk s
  | r :: rs, s => alter_more kind s r rs (alter_all kind hk rs r)
end Go.Proofs.YtaifciobaapehaaDoor

/- What Alter of package stairwellref does. -/
set_option linter.unusedSimpArgs false
set_option linter.unusedVariables false
namespace Go.Proofs.YtaifciobaapehaaDoor
open Go.RowKit

/- What Alter answers. -/
theorem cnts_app (a b : List V) : cnts (a ++ b) = cnts a + cnts b := by simp [cnts]
theorem cnts_swap {l : List V} {i : Nat} (h : i < l.length) (y : V) : cnts (l.take i ++ y :: l.drop (i + 1)) + cnt l[i] = cnts l + cnt y := by
  have e : cnts l = cnts (l.take i ++ l[i] :: l.drop (i + 1)) := by rw [← List.drop_eq_getElem_cons h, List.take_append_drop]
  rw [e, cnts_app, cnts_app, cnts_cons, cnts_cons]
  omega
theorem cnts_ins (l : List V) (i : Nat) (y : V) : cnts (l.take i ++ y :: l.drop i) = cnts l + cnt y := by
  have e : cnts l = cnts (l.take i ++ l.drop i) := by rw [List.take_append_drop]
  rw [e, cnts_app, cnts_app, cnts_cons]
  omega
theorem cnts_out (l : List V) (i : Nat) : cnts (l.take i ++ l.drop (i + 1)) ≤ cnts l := by
  by_cases h : i < l.length
  · have e : cnts l = cnts (l.take i ++ l[i] :: l.drop (i + 1)) := by rw [← List.drop_eq_getElem_cons h, List.take_append_drop]
    rw [e, cnts_app, cnts_app, cnts_cons]
    omega
  · rw [List.take_of_length_le (by omega), List.drop_eq_nil_of_le (by omega)]
    simp
theorem cnt_withA (t x : V) (s : List UInt8) : cnt (withV t s x) ≤ cnt t + cnt x := by
  unfold withV
  split
  · split
    · rename_i i hi
      rw [cnt_eq, cnt_eq t]
      simp only
      by_cases h : i < t.l.length
      · have := cnts_swap h x; omega
      · rw [List.take_of_length_le (by omega), List.drop_eq_nil_of_le (by omega), cnts_app, cnts_cons]
        simp [cnts]; omega
    · rw [cnt_eq, cnt_eq t]
      simp only
      have := cnts_ins t.l ((t.keys.takeWhile fun k => Op.bytesLess k s).length) x
      first | omega | (rw [cnts_ins]; omega)
  · omega
theorem cnt_without (t : V) (s : List UInt8) : cnt (withoutV t s) ≤ cnt t := by
  unfold withoutV
  split
  · rename_i i hi
    rw [cnt_eq, cnt_eq t]
    simp only
    have := cnts_out t.l i
    omega
  · omega
theorem cnt_swap {t y : V} {i : Nat} (h : i < t.l.length) : cnt { t with l := t.l.take i ++ y :: t.l.drop (i + 1) } + cnt t.l[i] = cnt t + cnt y := by
  rw [cnt_eq, cnt_eq t]
  simp only
  have := cnts_swap h y
  omega
theorem cnt_alt {kind : Int} {x t z : V} {s : List UInt8} (h : altV kind x t s = some z) : cnt z ≤ cnt t + cnt x := by
  unfold altV at h
  split at h
  · unfold addedV at h
    split at h
    · cases h; exact cnt_withA t x s
    · split at h
      · obtain ⟨i, -, rfl⟩ := Option.map_eq_some_iff.1 h
        rw [cnt_eq, cnt_eq t]
        simp only
        rw [cnts_ins]
        omega
      · cases h
  · split at h
    · rw [replaced_at] at h
      obtain ⟨i, hi, rfl⟩ := Option.map_eq_some_iff.1 h
      have := cnt_swap (y := x) (at_lt hi)
      omega
    · rw [removed_atA] at h
      obtain ⟨i, hi, rfl⟩ := Option.map_eq_some_iff.1 h
      split
      · have := cnt_without t s; omega
      · rw [cnt_eq, cnt_eq t]
        simp only
        have := cnts_out t.l i
        omega
theorem cnt_down {kind : Int} {x : V} : ∀ (rs : List (List UInt8)) (s : List UInt8) (t z : V), downV (altV kind x) (s :: rs) t = some z → cnt z ≤ cnt t + cnt x
  | [], s, t, z, h => cnt_alt (s := s) h
  | r :: rs, s, t, z, h => by
    rw [downV, meant_at] at h
    obtain ⟨y, hy, h⟩ := Option.bind_eq_some_iff.1 h
    obtain ⟨i, hi, hyi⟩ := Option.bind_eq_some_iff.1 hy
    obtain ⟨y', hy', h3⟩ := Option.bind_eq_some_iff.1 h
    have hil := at_lt hi
    rw [List.getElem?_eq_getElem hil] at hyi
    cases hyi
    have ih := cnt_down rs r _ y' hy'
    rw [replaced_at, hi] at h3
    cases h3
    have := cnt_swap (y := y') hil
    show cnt { t with l := t.l.take i ++ y' :: t.l.drop (i + 1) } ≤ _
    omega
theorem split_empty {p : List UInt8} (h : (splitP p).2 = 0) (h2 : (splitP p).1 = []) : p = [] := by
  cases p with
  | nil => rfl
  | cons c r =>
    unfold splitP at h h2
    simp only at h h2
    split at h
    · cases h
    · rename_i h4
      rw [if_neg h4] at h2
      simp only [List.map_eq_nil_iff] at h2
      exact absurd h2 (split_ne _ _)
set_option maxRecDepth 100000 in
set_option maxHeartbeats 40000000 in
theorem ralter1_is (w : World) (ok : Nat → Prop) (t x : V) (v xv : Value) (p : List UInt8) (h : In w ok t v) (hx : In w ok x xv) (hp : p.length ≤ 140737488351232) (hN : cnt t ≤ 1000000000000) (hM : cnt x ≤ 1000000000000) :
    Calls Tryd.prog 11 #[.int .i64 1, v, str p, xv] w fun e w' => ∃ r, e = .returned (.tuple #[r, .int .i64 (layR addedV p (splitP p) t x).2]) ∧ Below w.heap.size w w' ∧ In w' (okN ok w.heap.size) (layR addedV p (splitP p) t x).1 r := by
  have H := hidI h.low
  have HX := hidI hx.low
  have HN := hidI hN
  have HM := hidI hM
  have HN2 := hidI (show cnt t ≤ 1000000000000000 by omega)
  have HM2 := hidI (show cnt x ≤ 1000000000000000 by omega)
  obtain ⟨a1, a2, c1, c2, rfl⟩ := h.form
  obtain ⟨a7, a8, c7, c8, rfl⟩ := hx.form
  have K0 : Hid (KA w t x a1 a2 a7 a8 c1 c2 c7 c8 (((w.alloc (.cells #[.int .i64 t.kind, .int .i64 t.n, .string ⟨t.s.toArray⟩, .slice a1 t.keys.length c1, .slice a2 t.l.length c2] 25)).alloc (.cells #[.int .i64 x.kind, .int .i64 x.n, .string ⟨x.s.toArray⟩, .slice a7 x.keys.length c7, .slice a8 x.l.length c8] 25)).alloc (.cells #[.int .i64 0, .int .i64 0, .string ⟨#[]⟩, .slice none 0 0, .slice none 0 0] 25))) := hidI ⟨h3a w _ _ _, h3b w _ _ _, h3c w _ _ _, bel_trans (bel_trans (bel_alloc _ _) (bel_alloc _ _)) (bel_alloc _ _)⟩
  clear h hx hN hM
  go_enter Tryd.func11, Tryd.ntmps11
  go_wp2_with fail
  refine (rgood_is _ (fun k => ok k ∧ k < w.heap.size) x _ (by exact HX.out.bel K0.out.2.2.2) HM2.out).mono ?_
  rintro e w1 ⟨rfl, hb1⟩
  have KC := hidI (K0.out.bel hb1)
  have hbig := KC.out.big
  clear hb1
  obtain ⟨p0, p1, p2, p3, p4, -⟩ := KC.out.1.c
  obtain ⟨q0, q1, q2, q3, q4, -⟩ := KC.out.2.1.c
  cases hgx : goodV x with
  | false =>
    have HA : Hid (layR addedV p (splitP p) t x = (t, 1)) := hidI (by unfold layR; rw [if_pos hgx])
    clear hgx
    obtain ⟨x0, x1, x2, x3, x4, y0, y1, y2, y3, y4⟩ := KC.out.2.2.1.c
    have Z : Hid (_ ∧ _) := hidI (set_out (C := w1.heap.size) (g := w.heap.size + 2) ((H.out.bel KC.out.2.2.2).weak (lowN_low (C := w1.heap.size))) KC.out.2.2.2 (by omega) KC.out.2.2.1.lt)
    have ZB : Hid _ := hidI (KC.out.2.2.1.set (.int .i64 t.kind) (.int .i64 t.n) (.string ⟨t.s.toArray⟩) (.slice a1 t.keys.length c1) (.slice a2 t.l.length c2))
    go_wp2_with fail
    obtain ⟨z0, z1, z2, z3, z4, -⟩ := ZB.out.c
    refine bodyPost_ret (v := .tuple #[.agg #[.int .i64 t.kind, .int .i64 t.n, .string ⟨t.s.toArray⟩, .slice a1 t.keys.length c1, .slice a2 t.l.length c2], .int .i64 1]) ?_ rfl ?_
    · simp only [set5] at z0 z1 z2 z3 z4
      simp [results, Tryd.results11, go_sem, z0, z1, z2, z3, z4]
    · exact ⟨_, by rw [HA.out], Z.out.1, by rw [HA.out]; exact Z.out.2⟩
  | true =>
    have GX := hidI hgx
    clear hgx
    go_wp2_with fail
    refine (rsplit_is _ p hp).mono ?_
    rintro e w2 ⟨nv, rfl, hb1, hns⟩
    obtain ⟨ns, hn1⟩ : ∃ ns, (splitP p).1 = ns := ⟨_, rfl⟩
    obtain ⟨ee, hn2⟩ : ∃ ee, (splitP p).2 = ee := ⟨_, rfl⟩
    have SC := hidI (split_code p)
    have SE : Hid ((splitP p).2 = 0 → (splitP p).1 = [] → p = []) := hidI (fun a b => split_empty (p := p) a b)
    rw [hn2] at SC ⊢
    rw [hn1, hn2] at SE
    rw [hn1] at hns
    have hsp : splitP p = (ns, ee) := by rw [← hn1, ← hn2]
    clear hn1 hn2
    obtain ⟨na, nc, rfl⟩ := hns.form
    have SP := hidI hsp
    have nlen := hns.1
    unfold maxLen at nlen
    have K2 := hidI (KC.out.bel hb1)
    have NS := hidI hns
    have hbig2 := K2.out.big
    clear p0 p1 p2 p3 p4 q0 q1 q2 q3 q4
    obtain ⟨p0, p1, p2, p3, p4, -⟩ := K2.out.1.c
    obtain ⟨q0, q1, q2, q3, q4, -⟩ := K2.out.2.1.c
    clear hb1 hns hsp hbig
    by_cases he : ee = 0
    · subst he
      go_wp2_with fail
      refine (rgood_is _ (fun k => ok k ∧ k < w.heap.size) t _ (by exact H.out.bel K2.out.2.2.2) HN2.out).mono ?_
      rintro e w3 ⟨rfl, hb1⟩
      have K3 := hidI (K2.out.bel hb1)
      have NS3 := hidI (NS.out.bel hb1)
      have hbig3 := K3.out.big
      clear hb1 hbig2
      clear p0 p1 p2 p3 p4 q0 q1 q2 q3 q4
      obtain ⟨p0, p1, p2, p3, p4, -⟩ := K3.out.1.c
      obtain ⟨q0, q1, q2, q3, q4, -⟩ := K3.out.2.1.c
      cases hg : goodV t with
      | false =>
        have HA : Hid (layR addedV p (splitP p) t x = (t, 1)) := hidI (by unfold layR; rw [if_neg (by simp [GX.out]), if_neg (by simp [hg])]; unfold changeR; rw [SP.out, if_neg (by simp), if_pos (.inr hg)])
        clear hg
        obtain ⟨x0, x1, x2, x3, x4, y0, y1, y2, y3, y4⟩ := K3.out.2.2.1.c
        have Z : Hid (_ ∧ _) := hidI (set_out (C := w3.heap.size) (g := w.heap.size + 2) ((H.out.bel K3.out.2.2.2).weak (lowN_low (C := w3.heap.size))) K3.out.2.2.2 (by omega) K3.out.2.2.1.lt)
        have ZB : Hid _ := hidI (K3.out.2.2.1.set (.int .i64 t.kind) (.int .i64 t.n) (.string ⟨t.s.toArray⟩) (.slice a1 t.keys.length c1) (.slice a2 t.l.length c2))
        go_wp2_with fail
        obtain ⟨z0, z1, z2, z3, z4, -⟩ := ZB.out.c
        refine bodyPost_ret (v := .tuple #[.agg #[.int .i64 t.kind, .int .i64 t.n, .string ⟨t.s.toArray⟩, .slice a1 t.keys.length c1, .slice a2 t.l.length c2], .int .i64 1]) ?_ rfl ?_
        · simp only [set5] at z0 z1 z2 z3 z4
          simp [results, Tryd.results11, go_sem, z0, z1, z2, z3, z4]
        · exact ⟨_, by rw [HA.out], Z.out.1, by rw [HA.out]; exact Z.out.2⟩
      | true =>
        have NT := hidI (nice_of hg)
        have HG := hidI hg
        clear hg
        cases hns : ns with
        | nil =>
          subst hns
          have EP := hidI (SE.out (by trivial) (by trivial))
          have HA : Hid (layR addedV p (splitP p) t x = (x, 0)) := hidI (by unfold layR; rw [if_neg (by simp [GX.out]), if_pos ⟨EP.out, HG.out⟩])
          obtain ⟨x0, x1, x2, x3, x4, y0, y1, y2, y3, y4⟩ := K3.out.2.2.1.c
          have Z : Hid (_ ∧ _) := hidI (set_out (C := w3.heap.size) (g := w.heap.size + 2) ((HX.out.bel K3.out.2.2.2).weak (lowN_low (C := w3.heap.size))) K3.out.2.2.2 (by omega) K3.out.2.2.1.lt)
          have ZB : Hid _ := hidI (K3.out.2.2.1.set (.int .i64 x.kind) (.int .i64 x.n) (.string ⟨x.s.toArray⟩) (.slice a7 x.keys.length c7) (.slice a8 x.l.length c8))
          simp only [List.length_nil]
          go_wp2_with fail
          obtain ⟨z0, z1, z2, z3, z4, -⟩ := ZB.out.c
          refine bodyPost_ret (v := .tuple #[.agg #[.int .i64 x.kind, .int .i64 x.n, .string ⟨x.s.toArray⟩, .slice a7 x.keys.length c7, .slice a8 x.l.length c8], .int .i64 0]) ?_ rfl ?_
          · simp only [set5] at z0 z1 z2 z3 z4
            simp [results, Tryd.results11, go_sem, z0, z1, z2, z3, z4]
          · exact ⟨_, by rw [HA.out], Z.out.1, by rw [HA.out]; exact Z.out.2⟩
        | cons s rs =>
          subst hns
          obtain ⟨L, hL⟩ : ∃ L, (s :: rs).length = L := ⟨_, rfl⟩
          have hL0 : ((L : Int) == 0) = false := by rw [← hL]; simp; omega
          have HL := hidI hL
          have AR9 : Hid (layR addedV p (splitP p) t x = match downV (addedV x) (s :: rs) t with | none => (t, 3) | some z => if goodV z then (z, 0) else (t, 2)) := hidI (by unfold layR; rw [if_neg (by simp [GX.out]), if_neg (by intro h9; rw [h9.1] at SP; have := SP.out; simp [splitP] at this)]; unfold changeR; rw [SP.out, if_neg (by simp), if_neg (by simp [HG.out])]; rfl)
          rw [hL] at NS3 nlen ⊢
          clear hL
          have HD : Hid (∀ z, downV (addedV x) (s :: rs) t = some z → cnt z ≤ 1000000000000000) := hidI (fun z hz => by have := cnt_down (kind := 1) (x := x) rs s t z hz; have := HN.out; have := HM.out; omega)
          obtain ⟨cd, hcd⟩ : ∃ cd : Int, (if (downV (addedV x) (s :: rs) t).isSome then 0 else 3) = cd := ⟨_, rfl⟩
          have CD := hidI hcd
          clear hcd
          go_wp2_with fail
          refine (alter_all 1 (by omega) rs s _ (lowN ok w.heap.size w3.heap.size) _ t x _ _ _ ((H.out.bel K3.out.2.2.2).weak lowN_low) ((HX.out.bel K3.out.2.2.2).weak lowN_low) NT.out (by exact NS3.out)).mono ?_
          rintro e w4 ⟨r9, rfl, hb1, hy⟩
          rw [show altV 1 x = (addedV x) from rfl, CD.out]
          rw [show altV 1 x = (addedV x) from rfl] at hy
          obtain ⟨z, hz⟩ : ∃ z, (downV (addedV x) (s :: rs) t).getD t = z := ⟨_, rfl⟩
          rw [hz] at hy
          have HZ := hidI hz
          obtain ⟨b7, b8, d7, d8, rfl⟩ := hy.form
          have K4 := hidI (K3.out.bel (bel_trans hb1 (bel_alloc w4 (.cells #[.int .i64 z.kind, .int .i64 z.n, .string ⟨z.s.toArray⟩, .slice b7 z.keys.length d7, .slice b8 z.l.length d8] 25))))
          have Y4 := hidI (hy.bel (bel_alloc w4 (.cells #[.int .i64 z.kind, .int .i64 z.n, .string ⟨z.s.toArray⟩, .slice b7 z.keys.length d7, .slice b8 z.l.length d8] 25)))
          have B4 : Hid (BoxIs (w4.alloc (.cells #[.int .i64 z.kind, .int .i64 z.n, .string ⟨z.s.toArray⟩, .slice b7 z.keys.length d7, .slice b8 z.l.length d8] 25)) w4.heap.size (.int .i64 z.kind) (.int .i64 z.n) (.string ⟨z.s.toArray⟩) (.slice b7 z.keys.length d7) (.slice b8 z.l.length d8)) := hidI (heap_alloc_new w4 _)
          obtain ⟨W4, hW4⟩ : ∃ W4, w4.alloc (.cells #[.int .i64 z.kind, .int .i64 z.n, .string ⟨z.s.toArray⟩, .slice b7 z.keys.length d7, .slice b8 z.l.length d8] 25) = W4 := ⟨_, rfl⟩
          rw [hW4] at K4 Y4 B4
          have hbig4 := K4.out.big
          clear p0 p1 p2 p3 p4 q0 q1 q2 q3 q4
          obtain ⟨p0, p1, p2, p3, p4, -⟩ := K4.out.1.c
          obtain ⟨q0, q1, q2, q3, q4, -⟩ := K4.out.2.1.c
          obtain ⟨m0, m1, m2, m3, m4, -⟩ := B4.out.c
          clear hb1 hy hz
          cases hd : downV (addedV x) (s :: rs) t with
          | none =>
            have hc : cd = 3 := by rw [← CD.out, hd]; rfl
            subst hc
            have HA : Hid (layR addedV p (splitP p) t x = (t, 3)) := hidI (by rw [AR9.out, hd])
            clear hd CD
            go_upto_region 11 with fail
            try rw [hW4]
            obtain ⟨x0, x1, x2, x3, x4, y0, y1, y2, y3, y4⟩ := K4.out.2.2.1.c
            have Z : Hid (_ ∧ _) := hidI (set_out (C := W4.heap.size) (g := w.heap.size + 2) ((H.out.bel K4.out.2.2.2).weak (lowN_low (C := W4.heap.size))) K4.out.2.2.2 (by omega) K4.out.2.2.1.lt)
            have ZB : Hid _ := hidI (K4.out.2.2.1.set (.int .i64 t.kind) (.int .i64 t.n) (.string ⟨t.s.toArray⟩) (.slice a1 t.keys.length c1) (.slice a2 t.l.length c2))
            go_wp2_with fail
            obtain ⟨z0, z1, z2, z3, z4, -⟩ := ZB.out.c
            refine bodyPost_ret (v := .tuple #[.agg #[.int .i64 t.kind, .int .i64 t.n, .string ⟨t.s.toArray⟩, .slice a1 t.keys.length c1, .slice a2 t.l.length c2], .int .i64 3]) ?_ rfl ?_
            · simp only [set5] at z0 z1 z2 z3 z4
              simp [results, Tryd.results11, go_sem, z0, z1, z2, z3, z4]
            · exact ⟨_, by rw [HA.out], Z.out.1, by rw [HA.out]; exact Z.out.2⟩
          | some z9 =>
            have hc : cd = 0 := by rw [← CD.out, hd]; rfl
            subst hc
            obtain rfl : z9 = z := by have := HZ.out; rw [hd] at this; exact this
            have CZ := hidI (HD.out _ hd)
            have HA0 : Hid (layR addedV p (splitP p) t x = if goodV z9 then (z9, 0) else (t, 2)) := hidI (by rw [AR9.out, hd])
            clear hd CD
            go_upto_region 11 with fail
            try rw [hW4]
            clear hW4
            go_wp2_with fail
            refine (rgood_is _ _ z9 _ (by exact Y4.out) CZ.out).mono ?_
            rintro e w5 ⟨rfl, hb1⟩
            have K5 := hidI (K4.out.bel hb1)
            have Y5 := hidI (Y4.out.bel hb1)
            have B5 := hidI (box_bel hb1 B4.out)
            have hbig5 := K5.out.big
            clear p0 p1 p2 p3 p4 q0 q1 q2 q3 q4
            clear m0 m1 m2 m3 m4
            obtain ⟨p0, p1, p2, p3, p4, -⟩ := K5.out.1.c
            obtain ⟨q0, q1, q2, q3, q4, -⟩ := K5.out.2.1.c
            obtain ⟨m0, m1, m2, m3, m4, -⟩ := B5.out.c
            clear hb1
            cases hgz : goodV z9 with
            | false =>
              have HA : Hid (layR addedV p (splitP p) t x = (t, 2)) := hidI (by rw [HA0.out, hgz]; rfl)
              clear hgz
              obtain ⟨x0, x1, x2, x3, x4, y0, y1, y2, y3, y4⟩ := K5.out.2.2.1.c
              have Z : Hid (_ ∧ _) := hidI (set_out (C := w5.heap.size) (g := w.heap.size + 2) ((H.out.bel K5.out.2.2.2).weak (lowN_low (C := w5.heap.size))) K5.out.2.2.2 (by omega) K5.out.2.2.1.lt)
              have ZB : Hid _ := hidI (K5.out.2.2.1.set (.int .i64 t.kind) (.int .i64 t.n) (.string ⟨t.s.toArray⟩) (.slice a1 t.keys.length c1) (.slice a2 t.l.length c2))
              go_wp2_with fail
              obtain ⟨z0, z1, z2, z3, z4, -⟩ := ZB.out.c
              refine bodyPost_ret (v := .tuple #[.agg #[.int .i64 t.kind, .int .i64 t.n, .string ⟨t.s.toArray⟩, .slice a1 t.keys.length c1, .slice a2 t.l.length c2], .int .i64 2]) ?_ rfl ?_
              · simp only [set5] at z0 z1 z2 z3 z4
                simp [results, Tryd.results11, go_sem, z0, z1, z2, z3, z4]
              · exact ⟨_, by rw [HA.out], Z.out.1, by rw [HA.out]; exact Z.out.2⟩
            | true =>
              have HA : Hid (layR addedV p (splitP p) t x = (z9, 0)) := hidI (by rw [HA0.out, hgz]; rfl)
              clear hgz
              have R := hidI (put_out K5.out Y5.out hbig3 hbig3)
              obtain ⟨x0, x1, x2, x3, x4, y0, y1, y2, y3, y4⟩ := K5.out.2.2.1.c
              go_wp2_with fail
              obtain ⟨r1, r2, r3⟩ := R.out
              obtain ⟨z0, z1, z2, z3, z4, -⟩ := r3.c
              refine bodyPost_ret (v := .tuple #[.agg #[.int .i64 z9.kind, .int .i64 z9.n, .string ⟨z9.s.toArray⟩, .slice b7 z9.keys.length d7, .slice b8 z9.l.length d8], .int .i64 0]) ?_ rfl ?_
              · simp only [set5] at z0 z1 z2 z3 z4
                simp [results, Tryd.results11, go_sem, z0, z1, z2, z3, z4]
              · exact ⟨_, by rw [HA.out], r1, by rw [HA.out]; exact r2⟩
    · have he1 : ee = 1 := SC.out.resolve_left he
      subst he1
      have HA : Hid (layR addedV p (splitP p) t x = (t, 1)) := hidI (by unfold layR; rw [if_neg (by simp [GX.out]), if_neg (by intro h9; rw [h9.1] at SP; have := SP.out; simp [splitP] at this)]; unfold changeR; rw [SP.out, if_pos (by simp)])
      clear he
      obtain ⟨x0, x1, x2, x3, x4, y0, y1, y2, y3, y4⟩ := K2.out.2.2.1.c
      have Z : Hid (_ ∧ _) := hidI (set_out (C := w2.heap.size) (g := w.heap.size + 2) ((H.out.bel K2.out.2.2.2).weak (lowN_low (C := w2.heap.size))) K2.out.2.2.2 (by omega) K2.out.2.2.1.lt)
      have ZB : Hid _ := hidI (K2.out.2.2.1.set (.int .i64 t.kind) (.int .i64 t.n) (.string ⟨t.s.toArray⟩) (.slice a1 t.keys.length c1) (.slice a2 t.l.length c2))
      go_wp2_with fail
      obtain ⟨z0, z1, z2, z3, z4, -⟩ := ZB.out.c
      refine bodyPost_ret (v := .tuple #[.agg #[.int .i64 t.kind, .int .i64 t.n, .string ⟨t.s.toArray⟩, .slice a1 t.keys.length c1, .slice a2 t.l.length c2], .int .i64 1]) ?_ rfl ?_
      · simp only [set5] at z0 z1 z2 z3 z4
        simp [results, Tryd.results11, go_sem, z0, z1, z2, z3, z4]
      · exact ⟨_, by rw [HA.out], Z.out.1, by rw [HA.out]; exact Z.out.2⟩
set_option maxRecDepth 100000 in
set_option maxHeartbeats 40000000 in
theorem ralter2_is (w : World) (ok : Nat → Prop) (t x : V) (v xv : Value) (p : List UInt8) (h : In w ok t v) (hx : In w ok x xv) (hp : p.length ≤ 140737488351232) (hN : cnt t ≤ 1000000000000) (hM : cnt x ≤ 1000000000000) :
    Calls Tryd.prog 11 #[.int .i64 2, v, str p, xv] w fun e w' => ∃ r, e = .returned (.tuple #[r, .int .i64 (changeR removedV (splitP p) t).2]) ∧ Below w.heap.size w w' ∧ In w' (okN ok w.heap.size) (changeR removedV (splitP p) t).1 r := by
  have H := hidI h.low
  have HX := hidI hx.low
  have HN := hidI hN
  have HM := hidI hM
  have HN2 := hidI (show cnt t ≤ 1000000000000000 by omega)
  have HM2 := hidI (show cnt x ≤ 1000000000000000 by omega)
  obtain ⟨a1, a2, c1, c2, rfl⟩ := h.form
  obtain ⟨a7, a8, c7, c8, rfl⟩ := hx.form
  have K0 : Hid (KA w t x a1 a2 a7 a8 c1 c2 c7 c8 (((w.alloc (.cells #[.int .i64 t.kind, .int .i64 t.n, .string ⟨t.s.toArray⟩, .slice a1 t.keys.length c1, .slice a2 t.l.length c2] 25)).alloc (.cells #[.int .i64 x.kind, .int .i64 x.n, .string ⟨x.s.toArray⟩, .slice a7 x.keys.length c7, .slice a8 x.l.length c8] 25)).alloc (.cells #[.int .i64 0, .int .i64 0, .string ⟨#[]⟩, .slice none 0 0, .slice none 0 0] 25))) := hidI ⟨h3a w _ _ _, h3b w _ _ _, h3c w _ _ _, bel_trans (bel_trans (bel_alloc _ _) (bel_alloc _ _)) (bel_alloc _ _)⟩
  clear h hx hN hM
  go_enter Tryd.func11, Tryd.ntmps11
  have KC := K0
  have hbig : w.heap.size + 2 < (((w.alloc (.cells #[.int .i64 t.kind, .int .i64 t.n, .string ⟨t.s.toArray⟩, .slice a1 t.keys.length c1, .slice a2 t.l.length c2] 25)).alloc (.cells #[.int .i64 x.kind, .int .i64 x.n, .string ⟨x.s.toArray⟩, .slice a7 x.keys.length c7, .slice a8 x.l.length c8] 25)).alloc (.cells #[.int .i64 0, .int .i64 0, .string ⟨#[]⟩, .slice none 0 0, .slice none 0 0] 25)).heap.size := KC.out.big
  obtain ⟨p0, p1, p2, p3, p4, -⟩ := KC.out.1.c
  obtain ⟨q0, q1, q2, q3, q4, -⟩ := KC.out.2.1.c
  go_wp2_with fail
  refine (rsplit_is _ p hp).mono ?_
  rintro e w2 ⟨nv, rfl, hb1, hns⟩
  obtain ⟨ns, hn1⟩ : ∃ ns, (splitP p).1 = ns := ⟨_, rfl⟩
  obtain ⟨ee, hn2⟩ : ∃ ee, (splitP p).2 = ee := ⟨_, rfl⟩
  have SC := hidI (split_code p)
  have SE : Hid ((splitP p).2 = 0 → (splitP p).1 = [] → p = []) := hidI (fun a b => split_empty (p := p) a b)
  rw [hn2] at SC ⊢
  rw [hn1, hn2] at SE
  rw [hn1] at hns
  have hsp : splitP p = (ns, ee) := by rw [← hn1, ← hn2]
  clear hn1 hn2
  obtain ⟨na, nc, rfl⟩ := hns.form
  have SP := hidI hsp
  have nlen := hns.1
  unfold maxLen at nlen
  have K2 := hidI (KC.out.bel hb1)
  have NS := hidI hns
  have hbig2 := K2.out.big
  clear p0 p1 p2 p3 p4 q0 q1 q2 q3 q4
  obtain ⟨p0, p1, p2, p3, p4, -⟩ := K2.out.1.c
  obtain ⟨q0, q1, q2, q3, q4, -⟩ := K2.out.2.1.c
  clear hb1 hns hsp hbig
  by_cases he : ee = 0
  · subst he
    go_wp2_with fail
    refine (rgood_is _ (fun k => ok k ∧ k < w.heap.size) t _ (by exact H.out.bel K2.out.2.2.2) HN2.out).mono ?_
    rintro e w3 ⟨rfl, hb1⟩
    have K3 := hidI (K2.out.bel hb1)
    have NS3 := hidI (NS.out.bel hb1)
    have hbig3 := K3.out.big
    clear hb1 hbig2
    clear p0 p1 p2 p3 p4 q0 q1 q2 q3 q4
    obtain ⟨p0, p1, p2, p3, p4, -⟩ := K3.out.1.c
    obtain ⟨q0, q1, q2, q3, q4, -⟩ := K3.out.2.1.c
    cases hg : goodV t with
    | false =>
      have HA : Hid (changeR removedV (splitP p) t = (t, 1)) := hidI (by unfold changeR; rw [SP.out, if_neg (by simp), if_pos (.inr hg)])
      clear hg
      obtain ⟨x0, x1, x2, x3, x4, y0, y1, y2, y3, y4⟩ := K3.out.2.2.1.c
      have Z : Hid (_ ∧ _) := hidI (set_out (C := w3.heap.size) (g := w.heap.size + 2) ((H.out.bel K3.out.2.2.2).weak (lowN_low (C := w3.heap.size))) K3.out.2.2.2 (by omega) K3.out.2.2.1.lt)
      have ZB : Hid _ := hidI (K3.out.2.2.1.set (.int .i64 t.kind) (.int .i64 t.n) (.string ⟨t.s.toArray⟩) (.slice a1 t.keys.length c1) (.slice a2 t.l.length c2))
      go_wp2_with fail
      obtain ⟨z0, z1, z2, z3, z4, -⟩ := ZB.out.c
      refine bodyPost_ret (v := .tuple #[.agg #[.int .i64 t.kind, .int .i64 t.n, .string ⟨t.s.toArray⟩, .slice a1 t.keys.length c1, .slice a2 t.l.length c2], .int .i64 1]) ?_ rfl ?_
      · simp only [set5] at z0 z1 z2 z3 z4
        simp [results, Tryd.results11, go_sem, z0, z1, z2, z3, z4]
      · exact ⟨_, by rw [HA.out], Z.out.1, by rw [HA.out]; exact Z.out.2⟩
    | true =>
      have NT := hidI (nice_of hg)
      have HG := hidI hg
      clear hg
      cases hns : ns with
      | nil =>
        subst hns
        have EP := hidI (SE.out (by trivial) (by trivial))
        have HA : Hid (changeR removedV (splitP p) t = (t, 1)) := hidI (by unfold changeR; rw [SP.out, if_neg (by simp), if_pos (.inl rfl)])
        simp only [List.length_nil]
        obtain ⟨x0, x1, x2, x3, x4, y0, y1, y2, y3, y4⟩ := K3.out.2.2.1.c
        have Z : Hid (_ ∧ _) := hidI (set_out (C := w3.heap.size) (g := w.heap.size + 2) ((H.out.bel K3.out.2.2.2).weak (lowN_low (C := w3.heap.size))) K3.out.2.2.2 (by omega) K3.out.2.2.1.lt)
        have ZB : Hid _ := hidI (K3.out.2.2.1.set (.int .i64 t.kind) (.int .i64 t.n) (.string ⟨t.s.toArray⟩) (.slice a1 t.keys.length c1) (.slice a2 t.l.length c2))
        go_wp2_with fail
        obtain ⟨z0, z1, z2, z3, z4, -⟩ := ZB.out.c
        refine bodyPost_ret (v := .tuple #[.agg #[.int .i64 t.kind, .int .i64 t.n, .string ⟨t.s.toArray⟩, .slice a1 t.keys.length c1, .slice a2 t.l.length c2], .int .i64 1]) ?_ rfl ?_
        · simp only [set5] at z0 z1 z2 z3 z4
          simp [results, Tryd.results11, go_sem, z0, z1, z2, z3, z4]
        · exact ⟨_, by rw [HA.out], Z.out.1, by rw [HA.out]; exact Z.out.2⟩
      | cons s rs =>
        subst hns
        obtain ⟨L, hL⟩ : ∃ L, (s :: rs).length = L := ⟨_, rfl⟩
        have hL0 : ((L : Int) == 0) = false := by rw [← hL]; simp; omega
        have HL := hidI hL
        have AR9 : Hid (changeR removedV (splitP p) t = match downV (removedV) (s :: rs) t with | none => (t, 3) | some z => if goodV z then (z, 0) else (t, 2)) := hidI (by unfold changeR; rw [SP.out, if_neg (by simp), if_neg (by simp [HG.out])]; rfl)
        rw [hL] at NS3 nlen ⊢
        clear hL
        have HD : Hid (∀ z, downV (removedV) (s :: rs) t = some z → cnt z ≤ 1000000000000000) := hidI (fun z hz => by have := cnt_down (kind := 2) (x := x) rs s t z hz; have := HN.out; have := HM.out; omega)
        obtain ⟨cd, hcd⟩ : ∃ cd : Int, (if (downV (removedV) (s :: rs) t).isSome then 0 else 3) = cd := ⟨_, rfl⟩
        have CD := hidI hcd
        clear hcd
        go_wp2_with fail
        refine (alter_all 2 (by omega) rs s _ (lowN ok w.heap.size w3.heap.size) _ t x _ _ _ ((H.out.bel K3.out.2.2.2).weak lowN_low) ((HX.out.bel K3.out.2.2.2).weak lowN_low) NT.out (by exact NS3.out)).mono ?_
        rintro e w4 ⟨r9, rfl, hb1, hy⟩
        rw [show altV 2 x = (removedV) from rfl, CD.out]
        rw [show altV 2 x = (removedV) from rfl] at hy
        obtain ⟨z, hz⟩ : ∃ z, (downV (removedV) (s :: rs) t).getD t = z := ⟨_, rfl⟩
        rw [hz] at hy
        have HZ := hidI hz
        obtain ⟨b7, b8, d7, d8, rfl⟩ := hy.form
        have K4 := hidI (K3.out.bel (bel_trans hb1 (bel_alloc w4 (.cells #[.int .i64 z.kind, .int .i64 z.n, .string ⟨z.s.toArray⟩, .slice b7 z.keys.length d7, .slice b8 z.l.length d8] 25))))
        have Y4 := hidI (hy.bel (bel_alloc w4 (.cells #[.int .i64 z.kind, .int .i64 z.n, .string ⟨z.s.toArray⟩, .slice b7 z.keys.length d7, .slice b8 z.l.length d8] 25)))
        have B4 : Hid (BoxIs (w4.alloc (.cells #[.int .i64 z.kind, .int .i64 z.n, .string ⟨z.s.toArray⟩, .slice b7 z.keys.length d7, .slice b8 z.l.length d8] 25)) w4.heap.size (.int .i64 z.kind) (.int .i64 z.n) (.string ⟨z.s.toArray⟩) (.slice b7 z.keys.length d7) (.slice b8 z.l.length d8)) := hidI (heap_alloc_new w4 _)
        obtain ⟨W4, hW4⟩ : ∃ W4, w4.alloc (.cells #[.int .i64 z.kind, .int .i64 z.n, .string ⟨z.s.toArray⟩, .slice b7 z.keys.length d7, .slice b8 z.l.length d8] 25) = W4 := ⟨_, rfl⟩
        rw [hW4] at K4 Y4 B4
        have hbig4 := K4.out.big
        clear p0 p1 p2 p3 p4 q0 q1 q2 q3 q4
        obtain ⟨p0, p1, p2, p3, p4, -⟩ := K4.out.1.c
        obtain ⟨q0, q1, q2, q3, q4, -⟩ := K4.out.2.1.c
        obtain ⟨m0, m1, m2, m3, m4, -⟩ := B4.out.c
        clear hb1 hy hz
        cases hd : downV (removedV) (s :: rs) t with
        | none =>
          have hc : cd = 3 := by rw [← CD.out, hd]; rfl
          subst hc
          have HA : Hid (changeR removedV (splitP p) t = (t, 3)) := hidI (by rw [AR9.out, hd])
          clear hd CD
          go_upto_region 11 with fail
          try rw [hW4]
          obtain ⟨x0, x1, x2, x3, x4, y0, y1, y2, y3, y4⟩ := K4.out.2.2.1.c
          have Z : Hid (_ ∧ _) := hidI (set_out (C := W4.heap.size) (g := w.heap.size + 2) ((H.out.bel K4.out.2.2.2).weak (lowN_low (C := W4.heap.size))) K4.out.2.2.2 (by omega) K4.out.2.2.1.lt)
          have ZB : Hid _ := hidI (K4.out.2.2.1.set (.int .i64 t.kind) (.int .i64 t.n) (.string ⟨t.s.toArray⟩) (.slice a1 t.keys.length c1) (.slice a2 t.l.length c2))
          go_wp2_with fail
          obtain ⟨z0, z1, z2, z3, z4, -⟩ := ZB.out.c
          refine bodyPost_ret (v := .tuple #[.agg #[.int .i64 t.kind, .int .i64 t.n, .string ⟨t.s.toArray⟩, .slice a1 t.keys.length c1, .slice a2 t.l.length c2], .int .i64 3]) ?_ rfl ?_
          · simp only [set5] at z0 z1 z2 z3 z4
            simp [results, Tryd.results11, go_sem, z0, z1, z2, z3, z4]
          · exact ⟨_, by rw [HA.out], Z.out.1, by rw [HA.out]; exact Z.out.2⟩
        | some z9 =>
          have hc : cd = 0 := by rw [← CD.out, hd]; rfl
          subst hc
          obtain rfl : z9 = z := by have := HZ.out; rw [hd] at this; exact this
          have CZ := hidI (HD.out _ hd)
          have HA0 : Hid (changeR removedV (splitP p) t = if goodV z9 then (z9, 0) else (t, 2)) := hidI (by rw [AR9.out, hd])
          clear hd CD
          go_upto_region 11 with fail
          try rw [hW4]
          clear hW4
          go_wp2_with fail
          refine (rgood_is _ _ z9 _ (by exact Y4.out) CZ.out).mono ?_
          rintro e w5 ⟨rfl, hb1⟩
          have K5 := hidI (K4.out.bel hb1)
          have Y5 := hidI (Y4.out.bel hb1)
          have B5 := hidI (box_bel hb1 B4.out)
          have hbig5 := K5.out.big
          clear p0 p1 p2 p3 p4 q0 q1 q2 q3 q4
          clear m0 m1 m2 m3 m4
          obtain ⟨p0, p1, p2, p3, p4, -⟩ := K5.out.1.c
          obtain ⟨q0, q1, q2, q3, q4, -⟩ := K5.out.2.1.c
          obtain ⟨m0, m1, m2, m3, m4, -⟩ := B5.out.c
          clear hb1
          cases hgz : goodV z9 with
          | false =>
            have HA : Hid (changeR removedV (splitP p) t = (t, 2)) := hidI (by rw [HA0.out, hgz]; rfl)
            clear hgz
            obtain ⟨x0, x1, x2, x3, x4, y0, y1, y2, y3, y4⟩ := K5.out.2.2.1.c
            have Z : Hid (_ ∧ _) := hidI (set_out (C := w5.heap.size) (g := w.heap.size + 2) ((H.out.bel K5.out.2.2.2).weak (lowN_low (C := w5.heap.size))) K5.out.2.2.2 (by omega) K5.out.2.2.1.lt)
            have ZB : Hid _ := hidI (K5.out.2.2.1.set (.int .i64 t.kind) (.int .i64 t.n) (.string ⟨t.s.toArray⟩) (.slice a1 t.keys.length c1) (.slice a2 t.l.length c2))
            go_wp2_with fail
            obtain ⟨z0, z1, z2, z3, z4, -⟩ := ZB.out.c
            refine bodyPost_ret (v := .tuple #[.agg #[.int .i64 t.kind, .int .i64 t.n, .string ⟨t.s.toArray⟩, .slice a1 t.keys.length c1, .slice a2 t.l.length c2], .int .i64 2]) ?_ rfl ?_
            · simp only [set5] at z0 z1 z2 z3 z4
              simp [results, Tryd.results11, go_sem, z0, z1, z2, z3, z4]
            · exact ⟨_, by rw [HA.out], Z.out.1, by rw [HA.out]; exact Z.out.2⟩
          | true =>
            have HA : Hid (changeR removedV (splitP p) t = (z9, 0)) := hidI (by rw [HA0.out, hgz]; rfl)
            clear hgz
            have R := hidI (put_out K5.out Y5.out hbig3 hbig3)
            obtain ⟨x0, x1, x2, x3, x4, y0, y1, y2, y3, y4⟩ := K5.out.2.2.1.c
            go_wp2_with fail
            obtain ⟨r1, r2, r3⟩ := R.out
            obtain ⟨z0, z1, z2, z3, z4, -⟩ := r3.c
            refine bodyPost_ret (v := .tuple #[.agg #[.int .i64 z9.kind, .int .i64 z9.n, .string ⟨z9.s.toArray⟩, .slice b7 z9.keys.length d7, .slice b8 z9.l.length d8], .int .i64 0]) ?_ rfl ?_
            · simp only [set5] at z0 z1 z2 z3 z4
              simp [results, Tryd.results11, go_sem, z0, z1, z2, z3, z4]
            · exact ⟨_, by rw [HA.out], r1, by rw [HA.out]; exact r2⟩
  · have he1 : ee = 1 := SC.out.resolve_left he
    subst he1
    have HA : Hid (changeR removedV (splitP p) t = (t, 1)) := hidI (by unfold changeR; rw [SP.out, if_pos (by simp)])
    clear he
    obtain ⟨x0, x1, x2, x3, x4, y0, y1, y2, y3, y4⟩ := K2.out.2.2.1.c
    have Z : Hid (_ ∧ _) := hidI (set_out (C := w2.heap.size) (g := w.heap.size + 2) ((H.out.bel K2.out.2.2.2).weak (lowN_low (C := w2.heap.size))) K2.out.2.2.2 (by omega) K2.out.2.2.1.lt)
    have ZB : Hid _ := hidI (K2.out.2.2.1.set (.int .i64 t.kind) (.int .i64 t.n) (.string ⟨t.s.toArray⟩) (.slice a1 t.keys.length c1) (.slice a2 t.l.length c2))
    go_wp2_with fail
    obtain ⟨z0, z1, z2, z3, z4, -⟩ := ZB.out.c
    refine bodyPost_ret (v := .tuple #[.agg #[.int .i64 t.kind, .int .i64 t.n, .string ⟨t.s.toArray⟩, .slice a1 t.keys.length c1, .slice a2 t.l.length c2], .int .i64 1]) ?_ rfl ?_
    · simp only [set5] at z0 z1 z2 z3 z4
      simp [results, Tryd.results11, go_sem, z0, z1, z2, z3, z4]
    · exact ⟨_, by rw [HA.out], Z.out.1, by rw [HA.out]; exact Z.out.2⟩
set_option maxRecDepth 100000 in
set_option maxHeartbeats 40000000 in
theorem ralter3_is (w : World) (ok : Nat → Prop) (t x : V) (v xv : Value) (p : List UInt8) (h : In w ok t v) (hx : In w ok x xv) (hp : p.length ≤ 140737488351232) (hN : cnt t ≤ 1000000000000) (hM : cnt x ≤ 1000000000000) :
    Calls Tryd.prog 11 #[.int .i64 3, v, str p, xv] w fun e w' => ∃ r, e = .returned (.tuple #[r, .int .i64 (layR replacedV p (splitP p) t x).2]) ∧ Below w.heap.size w w' ∧ In w' (okN ok w.heap.size) (layR replacedV p (splitP p) t x).1 r := by
  have H := hidI h.low
  have HX := hidI hx.low
  have HN := hidI hN
  have HM := hidI hM
  have HN2 := hidI (show cnt t ≤ 1000000000000000 by omega)
  have HM2 := hidI (show cnt x ≤ 1000000000000000 by omega)
  obtain ⟨a1, a2, c1, c2, rfl⟩ := h.form
  obtain ⟨a7, a8, c7, c8, rfl⟩ := hx.form
  have K0 : Hid (KA w t x a1 a2 a7 a8 c1 c2 c7 c8 (((w.alloc (.cells #[.int .i64 t.kind, .int .i64 t.n, .string ⟨t.s.toArray⟩, .slice a1 t.keys.length c1, .slice a2 t.l.length c2] 25)).alloc (.cells #[.int .i64 x.kind, .int .i64 x.n, .string ⟨x.s.toArray⟩, .slice a7 x.keys.length c7, .slice a8 x.l.length c8] 25)).alloc (.cells #[.int .i64 0, .int .i64 0, .string ⟨#[]⟩, .slice none 0 0, .slice none 0 0] 25))) := hidI ⟨h3a w _ _ _, h3b w _ _ _, h3c w _ _ _, bel_trans (bel_trans (bel_alloc _ _) (bel_alloc _ _)) (bel_alloc _ _)⟩
  clear h hx hN hM
  go_enter Tryd.func11, Tryd.ntmps11
  go_wp2_with fail
  refine (rgood_is _ (fun k => ok k ∧ k < w.heap.size) x _ (by exact HX.out.bel K0.out.2.2.2) HM2.out).mono ?_
  rintro e w1 ⟨rfl, hb1⟩
  have KC := hidI (K0.out.bel hb1)
  have hbig := KC.out.big
  clear hb1
  obtain ⟨p0, p1, p2, p3, p4, -⟩ := KC.out.1.c
  obtain ⟨q0, q1, q2, q3, q4, -⟩ := KC.out.2.1.c
  cases hgx : goodV x with
  | false =>
    have HA : Hid (layR replacedV p (splitP p) t x = (t, 1)) := hidI (by unfold layR; rw [if_pos hgx])
    clear hgx
    obtain ⟨x0, x1, x2, x3, x4, y0, y1, y2, y3, y4⟩ := KC.out.2.2.1.c
    have Z : Hid (_ ∧ _) := hidI (set_out (C := w1.heap.size) (g := w.heap.size + 2) ((H.out.bel KC.out.2.2.2).weak (lowN_low (C := w1.heap.size))) KC.out.2.2.2 (by omega) KC.out.2.2.1.lt)
    have ZB : Hid _ := hidI (KC.out.2.2.1.set (.int .i64 t.kind) (.int .i64 t.n) (.string ⟨t.s.toArray⟩) (.slice a1 t.keys.length c1) (.slice a2 t.l.length c2))
    go_wp2_with fail
    obtain ⟨z0, z1, z2, z3, z4, -⟩ := ZB.out.c
    refine bodyPost_ret (v := .tuple #[.agg #[.int .i64 t.kind, .int .i64 t.n, .string ⟨t.s.toArray⟩, .slice a1 t.keys.length c1, .slice a2 t.l.length c2], .int .i64 1]) ?_ rfl ?_
    · simp only [set5] at z0 z1 z2 z3 z4
      simp [results, Tryd.results11, go_sem, z0, z1, z2, z3, z4]
    · exact ⟨_, by rw [HA.out], Z.out.1, by rw [HA.out]; exact Z.out.2⟩
  | true =>
    have GX := hidI hgx
    clear hgx
    go_wp2_with fail
    refine (rsplit_is _ p hp).mono ?_
    rintro e w2 ⟨nv, rfl, hb1, hns⟩
    obtain ⟨ns, hn1⟩ : ∃ ns, (splitP p).1 = ns := ⟨_, rfl⟩
    obtain ⟨ee, hn2⟩ : ∃ ee, (splitP p).2 = ee := ⟨_, rfl⟩
    have SC := hidI (split_code p)
    have SE : Hid ((splitP p).2 = 0 → (splitP p).1 = [] → p = []) := hidI (fun a b => split_empty (p := p) a b)
    rw [hn2] at SC ⊢
    rw [hn1, hn2] at SE
    rw [hn1] at hns
    have hsp : splitP p = (ns, ee) := by rw [← hn1, ← hn2]
    clear hn1 hn2
    obtain ⟨na, nc, rfl⟩ := hns.form
    have SP := hidI hsp
    have nlen := hns.1
    unfold maxLen at nlen
    have K2 := hidI (KC.out.bel hb1)
    have NS := hidI hns
    have hbig2 := K2.out.big
    clear p0 p1 p2 p3 p4 q0 q1 q2 q3 q4
    obtain ⟨p0, p1, p2, p3, p4, -⟩ := K2.out.1.c
    obtain ⟨q0, q1, q2, q3, q4, -⟩ := K2.out.2.1.c
    clear hb1 hns hsp hbig
    by_cases he : ee = 0
    · subst he
      go_wp2_with fail
      refine (rgood_is _ (fun k => ok k ∧ k < w.heap.size) t _ (by exact H.out.bel K2.out.2.2.2) HN2.out).mono ?_
      rintro e w3 ⟨rfl, hb1⟩
      have K3 := hidI (K2.out.bel hb1)
      have NS3 := hidI (NS.out.bel hb1)
      have hbig3 := K3.out.big
      clear hb1 hbig2
      clear p0 p1 p2 p3 p4 q0 q1 q2 q3 q4
      obtain ⟨p0, p1, p2, p3, p4, -⟩ := K3.out.1.c
      obtain ⟨q0, q1, q2, q3, q4, -⟩ := K3.out.2.1.c
      cases hg : goodV t with
      | false =>
        have HA : Hid (layR replacedV p (splitP p) t x = (t, 1)) := hidI (by unfold layR; rw [if_neg (by simp [GX.out]), if_neg (by simp [hg])]; unfold changeR; rw [SP.out, if_neg (by simp), if_pos (.inr hg)])
        clear hg
        obtain ⟨x0, x1, x2, x3, x4, y0, y1, y2, y3, y4⟩ := K3.out.2.2.1.c
        have Z : Hid (_ ∧ _) := hidI (set_out (C := w3.heap.size) (g := w.heap.size + 2) ((H.out.bel K3.out.2.2.2).weak (lowN_low (C := w3.heap.size))) K3.out.2.2.2 (by omega) K3.out.2.2.1.lt)
        have ZB : Hid _ := hidI (K3.out.2.2.1.set (.int .i64 t.kind) (.int .i64 t.n) (.string ⟨t.s.toArray⟩) (.slice a1 t.keys.length c1) (.slice a2 t.l.length c2))
        go_wp2_with fail
        obtain ⟨z0, z1, z2, z3, z4, -⟩ := ZB.out.c
        refine bodyPost_ret (v := .tuple #[.agg #[.int .i64 t.kind, .int .i64 t.n, .string ⟨t.s.toArray⟩, .slice a1 t.keys.length c1, .slice a2 t.l.length c2], .int .i64 1]) ?_ rfl ?_
        · simp only [set5] at z0 z1 z2 z3 z4
          simp [results, Tryd.results11, go_sem, z0, z1, z2, z3, z4]
        · exact ⟨_, by rw [HA.out], Z.out.1, by rw [HA.out]; exact Z.out.2⟩
      | true =>
        have NT := hidI (nice_of hg)
        have HG := hidI hg
        clear hg
        cases hns : ns with
        | nil =>
          subst hns
          have EP := hidI (SE.out (by trivial) (by trivial))
          have HA : Hid (layR replacedV p (splitP p) t x = (x, 0)) := hidI (by unfold layR; rw [if_neg (by simp [GX.out]), if_pos ⟨EP.out, HG.out⟩])
          obtain ⟨x0, x1, x2, x3, x4, y0, y1, y2, y3, y4⟩ := K3.out.2.2.1.c
          have Z : Hid (_ ∧ _) := hidI (set_out (C := w3.heap.size) (g := w.heap.size + 2) ((HX.out.bel K3.out.2.2.2).weak (lowN_low (C := w3.heap.size))) K3.out.2.2.2 (by omega) K3.out.2.2.1.lt)
          have ZB : Hid _ := hidI (K3.out.2.2.1.set (.int .i64 x.kind) (.int .i64 x.n) (.string ⟨x.s.toArray⟩) (.slice a7 x.keys.length c7) (.slice a8 x.l.length c8))
          simp only [List.length_nil]
          go_wp2_with fail
          obtain ⟨z0, z1, z2, z3, z4, -⟩ := ZB.out.c
          refine bodyPost_ret (v := .tuple #[.agg #[.int .i64 x.kind, .int .i64 x.n, .string ⟨x.s.toArray⟩, .slice a7 x.keys.length c7, .slice a8 x.l.length c8], .int .i64 0]) ?_ rfl ?_
          · simp only [set5] at z0 z1 z2 z3 z4
            simp [results, Tryd.results11, go_sem, z0, z1, z2, z3, z4]
          · exact ⟨_, by rw [HA.out], Z.out.1, by rw [HA.out]; exact Z.out.2⟩
        | cons s rs =>
          subst hns
          obtain ⟨L, hL⟩ : ∃ L, (s :: rs).length = L := ⟨_, rfl⟩
          have hL0 : ((L : Int) == 0) = false := by rw [← hL]; simp; omega
          have HL := hidI hL
          have AR9 : Hid (layR replacedV p (splitP p) t x = match downV (replacedV x) (s :: rs) t with | none => (t, 3) | some z => if goodV z then (z, 0) else (t, 2)) := hidI (by unfold layR; rw [if_neg (by simp [GX.out]), if_neg (by intro h9; rw [h9.1] at SP; have := SP.out; simp [splitP] at this)]; unfold changeR; rw [SP.out, if_neg (by simp), if_neg (by simp [HG.out])]; rfl)
          rw [hL] at NS3 nlen ⊢
          clear hL
          have HD : Hid (∀ z, downV (replacedV x) (s :: rs) t = some z → cnt z ≤ 1000000000000000) := hidI (fun z hz => by have := cnt_down (kind := 3) (x := x) rs s t z hz; have := HN.out; have := HM.out; omega)
          obtain ⟨cd, hcd⟩ : ∃ cd : Int, (if (downV (replacedV x) (s :: rs) t).isSome then 0 else 3) = cd := ⟨_, rfl⟩
          have CD := hidI hcd
          clear hcd
          go_wp2_with fail
          refine (alter_all 3 (by omega) rs s _ (lowN ok w.heap.size w3.heap.size) _ t x _ _ _ ((H.out.bel K3.out.2.2.2).weak lowN_low) ((HX.out.bel K3.out.2.2.2).weak lowN_low) NT.out (by exact NS3.out)).mono ?_
          rintro e w4 ⟨r9, rfl, hb1, hy⟩
          rw [show altV 3 x = (replacedV x) from rfl, CD.out]
          rw [show altV 3 x = (replacedV x) from rfl] at hy
          obtain ⟨z, hz⟩ : ∃ z, (downV (replacedV x) (s :: rs) t).getD t = z := ⟨_, rfl⟩
          rw [hz] at hy
          have HZ := hidI hz
          obtain ⟨b7, b8, d7, d8, rfl⟩ := hy.form
          have K4 := hidI (K3.out.bel (bel_trans hb1 (bel_alloc w4 (.cells #[.int .i64 z.kind, .int .i64 z.n, .string ⟨z.s.toArray⟩, .slice b7 z.keys.length d7, .slice b8 z.l.length d8] 25))))
          have Y4 := hidI (hy.bel (bel_alloc w4 (.cells #[.int .i64 z.kind, .int .i64 z.n, .string ⟨z.s.toArray⟩, .slice b7 z.keys.length d7, .slice b8 z.l.length d8] 25)))
          have B4 : Hid (BoxIs (w4.alloc (.cells #[.int .i64 z.kind, .int .i64 z.n, .string ⟨z.s.toArray⟩, .slice b7 z.keys.length d7, .slice b8 z.l.length d8] 25)) w4.heap.size (.int .i64 z.kind) (.int .i64 z.n) (.string ⟨z.s.toArray⟩) (.slice b7 z.keys.length d7) (.slice b8 z.l.length d8)) := hidI (heap_alloc_new w4 _)
          obtain ⟨W4, hW4⟩ : ∃ W4, w4.alloc (.cells #[.int .i64 z.kind, .int .i64 z.n, .string ⟨z.s.toArray⟩, .slice b7 z.keys.length d7, .slice b8 z.l.length d8] 25) = W4 := ⟨_, rfl⟩
          rw [hW4] at K4 Y4 B4
          have hbig4 := K4.out.big
          clear p0 p1 p2 p3 p4 q0 q1 q2 q3 q4
          obtain ⟨p0, p1, p2, p3, p4, -⟩ := K4.out.1.c
          obtain ⟨q0, q1, q2, q3, q4, -⟩ := K4.out.2.1.c
          obtain ⟨m0, m1, m2, m3, m4, -⟩ := B4.out.c
          clear hb1 hy hz
          cases hd : downV (replacedV x) (s :: rs) t with
          | none =>
            have hc : cd = 3 := by rw [← CD.out, hd]; rfl
            subst hc
            have HA : Hid (layR replacedV p (splitP p) t x = (t, 3)) := hidI (by rw [AR9.out, hd])
            clear hd CD
            go_upto_region 11 with fail
            try rw [hW4]
            obtain ⟨x0, x1, x2, x3, x4, y0, y1, y2, y3, y4⟩ := K4.out.2.2.1.c
            have Z : Hid (_ ∧ _) := hidI (set_out (C := W4.heap.size) (g := w.heap.size + 2) ((H.out.bel K4.out.2.2.2).weak (lowN_low (C := W4.heap.size))) K4.out.2.2.2 (by omega) K4.out.2.2.1.lt)
            have ZB : Hid _ := hidI (K4.out.2.2.1.set (.int .i64 t.kind) (.int .i64 t.n) (.string ⟨t.s.toArray⟩) (.slice a1 t.keys.length c1) (.slice a2 t.l.length c2))
            go_wp2_with fail
            obtain ⟨z0, z1, z2, z3, z4, -⟩ := ZB.out.c
            refine bodyPost_ret (v := .tuple #[.agg #[.int .i64 t.kind, .int .i64 t.n, .string ⟨t.s.toArray⟩, .slice a1 t.keys.length c1, .slice a2 t.l.length c2], .int .i64 3]) ?_ rfl ?_
            · simp only [set5] at z0 z1 z2 z3 z4
              simp [results, Tryd.results11, go_sem, z0, z1, z2, z3, z4]
            · exact ⟨_, by rw [HA.out], Z.out.1, by rw [HA.out]; exact Z.out.2⟩
          | some z9 =>
            have hc : cd = 0 := by rw [← CD.out, hd]; rfl
            subst hc
            obtain rfl : z9 = z := by have := HZ.out; rw [hd] at this; exact this
            have CZ := hidI (HD.out _ hd)
            have HA0 : Hid (layR replacedV p (splitP p) t x = if goodV z9 then (z9, 0) else (t, 2)) := hidI (by rw [AR9.out, hd])
            clear hd CD
            go_upto_region 11 with fail
            try rw [hW4]
            clear hW4
            go_wp2_with fail
            refine (rgood_is _ _ z9 _ (by exact Y4.out) CZ.out).mono ?_
            rintro e w5 ⟨rfl, hb1⟩
            have K5 := hidI (K4.out.bel hb1)
            have Y5 := hidI (Y4.out.bel hb1)
            have B5 := hidI (box_bel hb1 B4.out)
            have hbig5 := K5.out.big
            clear p0 p1 p2 p3 p4 q0 q1 q2 q3 q4
            clear m0 m1 m2 m3 m4
            obtain ⟨p0, p1, p2, p3, p4, -⟩ := K5.out.1.c
            obtain ⟨q0, q1, q2, q3, q4, -⟩ := K5.out.2.1.c
            obtain ⟨m0, m1, m2, m3, m4, -⟩ := B5.out.c
            clear hb1
            cases hgz : goodV z9 with
            | false =>
              have HA : Hid (layR replacedV p (splitP p) t x = (t, 2)) := hidI (by rw [HA0.out, hgz]; rfl)
              clear hgz
              obtain ⟨x0, x1, x2, x3, x4, y0, y1, y2, y3, y4⟩ := K5.out.2.2.1.c
              have Z : Hid (_ ∧ _) := hidI (set_out (C := w5.heap.size) (g := w.heap.size + 2) ((H.out.bel K5.out.2.2.2).weak (lowN_low (C := w5.heap.size))) K5.out.2.2.2 (by omega) K5.out.2.2.1.lt)
              have ZB : Hid _ := hidI (K5.out.2.2.1.set (.int .i64 t.kind) (.int .i64 t.n) (.string ⟨t.s.toArray⟩) (.slice a1 t.keys.length c1) (.slice a2 t.l.length c2))
              go_wp2_with fail
              obtain ⟨z0, z1, z2, z3, z4, -⟩ := ZB.out.c
              refine bodyPost_ret (v := .tuple #[.agg #[.int .i64 t.kind, .int .i64 t.n, .string ⟨t.s.toArray⟩, .slice a1 t.keys.length c1, .slice a2 t.l.length c2], .int .i64 2]) ?_ rfl ?_
              · simp only [set5] at z0 z1 z2 z3 z4
                simp [results, Tryd.results11, go_sem, z0, z1, z2, z3, z4]
              · exact ⟨_, by rw [HA.out], Z.out.1, by rw [HA.out]; exact Z.out.2⟩
            | true =>
              have HA : Hid (layR replacedV p (splitP p) t x = (z9, 0)) := hidI (by rw [HA0.out, hgz]; rfl)
              clear hgz
              have R := hidI (put_out K5.out Y5.out hbig3 hbig3)
              obtain ⟨x0, x1, x2, x3, x4, y0, y1, y2, y3, y4⟩ := K5.out.2.2.1.c
              go_wp2_with fail
              obtain ⟨r1, r2, r3⟩ := R.out
              obtain ⟨z0, z1, z2, z3, z4, -⟩ := r3.c
              refine bodyPost_ret (v := .tuple #[.agg #[.int .i64 z9.kind, .int .i64 z9.n, .string ⟨z9.s.toArray⟩, .slice b7 z9.keys.length d7, .slice b8 z9.l.length d8], .int .i64 0]) ?_ rfl ?_
              · simp only [set5] at z0 z1 z2 z3 z4
                simp [results, Tryd.results11, go_sem, z0, z1, z2, z3, z4]
              · exact ⟨_, by rw [HA.out], r1, by rw [HA.out]; exact r2⟩
    · have he1 : ee = 1 := SC.out.resolve_left he
      subst he1
      have HA : Hid (layR replacedV p (splitP p) t x = (t, 1)) := hidI (by unfold layR; rw [if_neg (by simp [GX.out]), if_neg (by intro h9; rw [h9.1] at SP; have := SP.out; simp [splitP] at this)]; unfold changeR; rw [SP.out, if_pos (by simp)])
      clear he
      obtain ⟨x0, x1, x2, x3, x4, y0, y1, y2, y3, y4⟩ := K2.out.2.2.1.c
      have Z : Hid (_ ∧ _) := hidI (set_out (C := w2.heap.size) (g := w.heap.size + 2) ((H.out.bel K2.out.2.2.2).weak (lowN_low (C := w2.heap.size))) K2.out.2.2.2 (by omega) K2.out.2.2.1.lt)
      have ZB : Hid _ := hidI (K2.out.2.2.1.set (.int .i64 t.kind) (.int .i64 t.n) (.string ⟨t.s.toArray⟩) (.slice a1 t.keys.length c1) (.slice a2 t.l.length c2))
      go_wp2_with fail
      obtain ⟨z0, z1, z2, z3, z4, -⟩ := ZB.out.c
      refine bodyPost_ret (v := .tuple #[.agg #[.int .i64 t.kind, .int .i64 t.n, .string ⟨t.s.toArray⟩, .slice a1 t.keys.length c1, .slice a2 t.l.length c2], .int .i64 1]) ?_ rfl ?_
      · simp only [set5] at z0 z1 z2 z3 z4
        simp [results, Tryd.results11, go_sem, z0, z1, z2, z3, z4]
      · exact ⟨_, by rw [HA.out], Z.out.1, by rw [HA.out]; exact Z.out.2⟩
end Go.Proofs.YtaifciobaapehaaDoor

/- What slices.Clone does, at lists of texts and at lists of values. -/
set_option linter.unusedSimpArgs false
set_option linter.unusedVariables false
namespace Go.Proofs.YtaifciobaapehaaDoor
open Go.RowKit

set_option maxRecDepth 100000 in
set_option maxHeartbeats 1000000 in
theorem cloneS (w : World) (v : Value) (n : Nat) (cells : List Value) (h : SlIs w 1 v n cells) :
    Calls Tryd.prog 74 #[v] w fun e w' => ∃ v', e = .returned v' ∧ w'.ownsRow w.heap.size 9 1 v' n cells ∧ Below w.heap.size w w' := by
  obtain ⟨i0, hi, hz0, hz1, hz2⟩ := info_parts info9
  obtain ⟨g1, g2, g3, g4⟩ := h
  rcases g4 with ⟨rfl, rfl⟩ | ⟨ad, cc, rfl, hcs⟩
  · have hc0 : cells = [] := List.eq_nil_of_length_eq_zero (by rw [g1])
    subst hc0
    have hnil : ∀ W : World, (binOp .eql 22 (.slice none 0 0) (.slice none 0 0)).run Tryd.prog W = .ok (.bool true) W := fun W => Lib.run_eql_slice_nil W _ _ _ _ _ _ _ Tryd.underlying22
    go_enter Tryd.func74, Tryd.ntmps74
    go_wp2
    go_ret
    exact ⟨_, rfl, World.ownsRow_nil _ _ _ _, Below.refl _ _⟩
  · have O : Hid ((w.alloc (.cells #[] 9)).ownsRow w.heap.size 9 1 (.slice (some ⟨w.heap.size, 0, none⟩) 0 0) 0 []) := World.ownsRow_made w #[] 0 (Nat.le_refl _) (by simp) (by simp)
    have C : Hid (cells.length = n * 1 ∧ (∀ u ∈ cells, u.oneCell' = true) ∧ ∀ j u, cells[j]? = some u → (w.alloc (.cells #[] 9)).cell? (ad.add j) = some u) := ⟨g1, g3, fun j u hj => cell_bel (bel_alloc _ _) (hcs j u hj)⟩
    have hnil : ∀ W : World, (binOp .eql 22 (.slice (some ad) n cc) (.slice none 0 0)).run Tryd.prog W = .ok (.bool false) W := fun W => Lib.run_eql_slice_nil W _ _ _ _ _ _ _ Tryd.underlying22
    clear g1 g3 hcs
    go_enter Tryd.func74, Tryd.ntmps74
    go_wp2_with (at_builtin; go_must (refine wpList_append_own _ rfl _ _ 22 rfl w.heap.size 9 i0 _ 1 16 Tryd.underlying22 hi hz0 hz1 hz2 rfl (by decide) (.slice (some ⟨w.heap.size, 0, none⟩) 0 0) 0 [] rfl O.out ad n cc cells rfl C.out.1 C.out.2.2 C.out.2.1 (by unfold maxLen; omega) (by omega) (by simp) ?_); intro v2 w2 ho2 hg2 _; refine Hid.out ?_)
    refine hidI ?_
    have D : Hid (w2.ownsRow w.heap.size 9 1 v2 n cells ∧ Below w.heap.size w w2) := by
      rw [Nat.zero_add, List.nil_append] at ho2
      exact ⟨ho2, (bel_alloc w _).grown hg2 (by simp) (fun k hk => (O.out.lt k hk).1)⟩
    clear ho2 hg2
    go_wp2_with fail
    go_ret
    exact ⟨v2, rfl, D.out.1, D.out.2⟩
set_option maxRecDepth 100000 in
set_option maxHeartbeats 1000000 in
theorem cloneV (w : World) (v : Value) (n : Nat) (cells : List Value) (h : SlIs w 5 v n cells) :
    Calls Tryd.prog 75 #[v] w fun e w' => ∃ v', e = .returned v' ∧ w'.ownsRow w.heap.size 25 5 v' n cells ∧ Below w.heap.size w w' := by
  obtain ⟨i0, hi, hz0, hz1, hz2⟩ := info_parts info25
  obtain ⟨g1, g2, g3, g4⟩ := h
  rcases g4 with ⟨rfl, rfl⟩ | ⟨ad, cc, rfl, hcs⟩
  · have hc0 : cells = [] := List.eq_nil_of_length_eq_zero (by rw [g1])
    subst hc0
    have hnil : ∀ W : World, (binOp .eql 23 (.slice none 0 0) (.slice none 0 0)).run Tryd.prog W = .ok (.bool true) W := fun W => Lib.run_eql_slice_nil W _ _ _ _ _ _ _ Tryd.underlying23
    go_enter Tryd.func75, Tryd.ntmps75
    go_wp2
    go_ret
    exact ⟨_, rfl, World.ownsRow_nil _ _ _ _, Below.refl _ _⟩
  · have O : Hid ((w.alloc (.cells #[] 25)).ownsRow w.heap.size 25 5 (.slice (some ⟨w.heap.size, 0, none⟩) 0 0) 0 []) := World.ownsRow_made w #[] 0 (Nat.le_refl _) (by simp) (by simp)
    have C : Hid (cells.length = n * 5 ∧ (∀ u ∈ cells, u.oneCell' = true) ∧ ∀ j u, cells[j]? = some u → (w.alloc (.cells #[] 25)).cell? (ad.add j) = some u) := ⟨g1, g3, fun j u hj => cell_bel (bel_alloc _ _) (hcs j u hj)⟩
    have hnil : ∀ W : World, (binOp .eql 23 (.slice (some ad) n cc) (.slice none 0 0)).run Tryd.prog W = .ok (.bool false) W := fun W => Lib.run_eql_slice_nil W _ _ _ _ _ _ _ Tryd.underlying23
    clear g1 g3 hcs
    go_enter Tryd.func75, Tryd.ntmps75
    go_wp2_with (at_builtin; go_must (refine wpList_append_own _ rfl _ _ 23 rfl w.heap.size 25 i0 _ 5 80 Tryd.underlying23 hi hz0 hz1 hz2 rfl (by decide) (.slice (some ⟨w.heap.size, 0, none⟩) 0 0) 0 [] rfl O.out ad n cc cells rfl C.out.1 C.out.2.2 C.out.2.1 (by unfold maxLen; omega) (by omega) (by simp) ?_); intro v2 w2 ho2 hg2 _; refine Hid.out ?_)
    refine hidI ?_
    have D : Hid (w2.ownsRow w.heap.size 25 5 v2 n cells ∧ Below w.heap.size w w2) := by
      rw [Nat.zero_add, List.nil_append] at ho2
      exact ⟨ho2, (bel_alloc w _).grown hg2 (by simp) (fun k hk => (O.out.lt k hk).1)⟩
    clear ho2 hg2
    go_wp2_with fail
    go_ret
    exact ⟨v2, rfl, D.out.1, D.out.2⟩
/- An empty list: it is one in every world. -/
end Go.Proofs.YtaifciobaapehaaDoor

set_option linter.unusedSimpArgs false
set_option linter.unusedVariables false
namespace Go.Proofs.YtaifciobaapehaaDoor
open Go.RowKit

/- What is said of twin. -/
def TwinC (d : Nat) : Prop := ∀ (w : World) (ok : Nat → Prop) (x : V) (xv : Value), VIs w ok d x xv → Nice x →
    Calls Tryd.prog 61 #[xv] w fun e w' => ∃ r, e = .returned r ∧ Below w.heap.size w w' ∧ In w' (fun k => w.heap.size ≤ k) x r
/- So far: the first k items are twins. -/
def TwL (w : World) (x : V) (cs : List Value) (ka' la' : Option Addr) (kc' lc' k : Nat) (wr : World) : Prop :=
  ∃ ns : List Value, BoxIs wr w.heap.size (.int .i64 x.kind) (.int .i64 x.n) (.string ⟨x.s.toArray⟩) (.slice ka' x.keys.length kc') (.slice la' x.l.length lc') ∧ BoxIs wr (w.heap.size + 1) (.int .i64 0) (.int .i64 0) (.string ⟨#[]⟩) (.slice none 0 0) (.slice none 0 0) ∧ Below w.heap.size w wr ∧ wr.ownsRow (w.heap.size + 2) 9 1 (.slice ka' x.keys.length kc') x.keys.length (x.keys.map str) ∧ wr.ownsRow (w.heap.size + 2) 25 5 (.slice la' x.l.length lc') x.l.length (ns ++ cs.drop (k * 5)) ∧ RowV (In wr (fun j => w.heap.size + 2 ≤ j ∧ la' ≠ some ⟨j, 0, none⟩)) (x.l.take k) ns
/- Behind both Clones. -/
def TwI (w : World) (x : V) (cs : List Value) (wc : World) : Prop :=
  ∃ (ka' la' : Option Addr) (kc' lc' : Nat), BoxIs wc w.heap.size (.int .i64 x.kind) (.int .i64 x.n) (.string ⟨x.s.toArray⟩) (.slice ka' x.keys.length kc') (.slice la' x.l.length lc') ∧ BoxIs wc (w.heap.size + 1) (.int .i64 0) (.int .i64 0) (.string ⟨#[]⟩) (.slice none 0 0) (.slice none 0 0) ∧ Below w.heap.size w wc ∧ wc.ownsRow (w.heap.size + 2) 9 1 (.slice ka' x.keys.length kc') x.keys.length (x.keys.map str) ∧ wc.ownsRow (w.heap.size + 2) 25 5 (.slice la' x.l.length lc') x.l.length cs ∧ (∀ g, ka' = some ⟨g, 0, none⟩ → la' ≠ some ⟨g, 0, none⟩)

set_option maxRecDepth 100000 in
set_option maxHeartbeats 40000000 in
theorem twin_succ (d : Nat) (ih : TwinC d) : TwinC (d + 1) := by
  intro w ok x xv h hn
  have hlen := nice_len hn
  have hklen : x.keys.length ≤ 120 := shaped_keys (nice_shaped hn) hlen
  obtain ⟨ks, ls, rfl, h1, h2, h3, h4, h5⟩ := h
  have sk := strs_sl h4 (by omega)
  obtain ⟨cs, hrow, sl⟩ := vals_sl h5 (by omega)
  obtain ⟨ka, kc, rfl⟩ := h4.form
  obtain ⟨la, lc, rfl⟩ := h5.form
  have KK : Hid (I64 x.kind ∧ I64 x.n ∧ x.s.length ≤ maxLen ∧ (∀ y ∈ x.keys, y.length ≤ maxLen)) := ⟨h1, h2, h3, fun y hy => h4.mem y hy⟩
  have RW := hidI hrow
  have SK := hidI sk
  have SL := hidI sl
  have IH := hidI ih
  have HN := hidI hn
  clear h1 h2 h3 h4 h5 hrow sk sl ih hn
  unfold str
  have bx0 : Hid (∀ W, W.heap = ((w.alloc (.cells #[.int .i64 x.kind, .int .i64 x.n, .string ⟨x.s.toArray⟩, .slice ka x.keys.length kc, .slice la x.l.length lc] 25)).alloc (.cells #[.int .i64 0, .int .i64 0, .string ⟨#[]⟩, .slice none 0 0, .slice none 0 0] 25)).heap → W.os = w.os → W.tape = w.tape → W.output = w.output → BoxIs W w.heap.size (.int .i64 x.kind) (.int .i64 x.n) (.string ⟨x.s.toArray⟩) (.slice ka x.keys.length kc) (.slice la x.l.length lc) ∧ BoxIs W (w.heap.size + 1) (.int .i64 0) (.int .i64 0) (.string ⟨#[]⟩) (.slice none 0 0) (.slice none 0 0) ∧ Below w.heap.size w W ∧ w.heap.size + 2 ≤ W.heap.size) := by
    intro W e1 e2 e3 e4
    exact ⟨by unfold BoxIs; rw [e1]; exact h2a w _ _, by unfold BoxIs; rw [e1]; exact h2b w _ _, bel_of2 e1 e2 e3 e4, by rw [e1]; simp⟩
  have conS1 : Hid (∀ W, (BoxIs W w.heap.size (.int .i64 x.kind) (.int .i64 x.n) (.string ⟨x.s.toArray⟩) (.slice ka x.keys.length kc) (.slice la x.l.length lc) ∧ BoxIs W (w.heap.size + 1) (.int .i64 0) (.int .i64 0) (.string ⟨#[]⟩) (.slice none 0 0) (.slice none 0 0) ∧ Below w.heap.size w W ∧ w.heap.size + 2 ≤ W.heap.size) → Calls Tryd.prog 74 #[(.slice ka x.keys.length kc)] W fun e w' => ∃ ka' kc', e = .returned (.slice ka' x.keys.length kc') ∧ (BoxIs w' w.heap.size (.int .i64 x.kind) (.int .i64 x.n) (.string ⟨x.s.toArray⟩) (.slice ka x.keys.length kc) (.slice la x.l.length lc) ∧ BoxIs w' (w.heap.size + 1) (.int .i64 0) (.int .i64 0) (.string ⟨#[]⟩) (.slice none 0 0) (.slice none 0 0) ∧ Below w.heap.size w w' ∧ w.heap.size + 2 ≤ w'.heap.size) ∧ w'.ownsRow (w.heap.size + 2) 9 1 (.slice ka' x.keys.length kc') x.keys.length (x.keys.map str)) := by
    intro W hW
    refine (cloneS W _ _ _ (SK.out.bel hW.2.2.1)).mono ?_
    rintro e w' ⟨v', rfl, ho, hb⟩
    obtain ⟨a, c, rfl, -⟩ := own_form ho
    exact ⟨a, c, rfl, ⟨box_bel hb hW.1, box_bel hb hW.2.1, bel_trans hW.2.2.1 hb, Nat.le_trans hW.2.2.2 hb.size⟩, own_base ho hW.2.2.2⟩
  have conV1 : Hid (∀ W, (BoxIs W w.heap.size (.int .i64 x.kind) (.int .i64 x.n) (.string ⟨x.s.toArray⟩) (.slice ka x.keys.length kc) (.slice la x.l.length lc) ∧ BoxIs W (w.heap.size + 1) (.int .i64 0) (.int .i64 0) (.string ⟨#[]⟩) (.slice none 0 0) (.slice none 0 0) ∧ Below w.heap.size w W ∧ w.heap.size + 2 ≤ W.heap.size) → Calls Tryd.prog 75 #[(.slice la x.l.length lc)] W fun e w' => ∃ la' lc', e = .returned (.slice la' x.l.length lc') ∧ (BoxIs w' w.heap.size (.int .i64 x.kind) (.int .i64 x.n) (.string ⟨x.s.toArray⟩) (.slice ka x.keys.length kc) (.slice la x.l.length lc) ∧ BoxIs w' (w.heap.size + 1) (.int .i64 0) (.int .i64 0) (.string ⟨#[]⟩) (.slice none 0 0) (.slice none 0 0) ∧ Below w.heap.size w w' ∧ w.heap.size + 2 ≤ w'.heap.size) ∧ w'.ownsRow (w.heap.size + 2) 25 5 (.slice la' x.l.length lc') x.l.length cs) := by
    intro W hW
    refine (cloneV W _ _ _ (SL.out.bel hW.2.2.1)).mono ?_
    rintro e w' ⟨v', rfl, ho, hb⟩
    obtain ⟨a, c, rfl, -⟩ := own_form ho
    exact ⟨a, c, rfl, ⟨box_bel hb hW.1, box_bel hb hW.2.1, bel_trans hW.2.2.1 hb, Nat.le_trans hW.2.2.2 hb.size⟩, own_base ho hW.2.2.2⟩
  have conV2 : Hid (∀ W ka' kc', ((BoxIs W w.heap.size (.int .i64 x.kind) (.int .i64 x.n) (.string ⟨x.s.toArray⟩) (.slice ka x.keys.length kc) (.slice la x.l.length lc) ∧ BoxIs W (w.heap.size + 1) (.int .i64 0) (.int .i64 0) (.string ⟨#[]⟩) (.slice none 0 0) (.slice none 0 0) ∧ Below w.heap.size w W ∧ w.heap.size + 2 ≤ W.heap.size) ∧ W.ownsRow (w.heap.size + 2) 9 1 (.slice ka' x.keys.length kc') x.keys.length (x.keys.map str)) → Calls Tryd.prog 75 #[(.slice la x.l.length lc)] W fun e w' => ∃ la' lc', e = .returned (.slice la' x.l.length lc') ∧ (BoxIs w' w.heap.size (.int .i64 x.kind) (.int .i64 x.n) (.string ⟨x.s.toArray⟩) (.slice ka x.keys.length kc) (.slice la x.l.length lc) ∧ BoxIs w' (w.heap.size + 1) (.int .i64 0) (.int .i64 0) (.string ⟨#[]⟩) (.slice none 0 0) (.slice none 0 0) ∧ Below w.heap.size w w' ∧ w.heap.size + 2 ≤ w'.heap.size) ∧ w'.ownsRow (w.heap.size + 2) 9 1 (.slice ka' x.keys.length kc') x.keys.length (x.keys.map str) ∧ w'.ownsRow (w.heap.size + 2) 25 5 (.slice la' x.l.length lc') x.l.length cs ∧ (∀ g, ka' = some ⟨g, 0, none⟩ → la' ≠ some ⟨g, 0, none⟩)) := by
    intro W ka' kc' hW
    refine (cloneV W _ _ _ (SL.out.bel hW.1.2.2.1)).mono ?_
    rintro e w' ⟨v', rfl, ho, hb⟩
    obtain ⟨a, c, rfl, -, -, -, hg⟩ := own_form ho
    refine ⟨a, c, rfl, ⟨box_bel hb hW.1.1, box_bel hb hW.1.2.1, bel_trans hW.1.2.2.1 hb, Nat.le_trans hW.1.2.2.2 hb.size⟩, own_bel hW.2 hb, own_base ho hW.1.2.2.2, fun g e1 e2 => ?_⟩
    have := (hg g e2).1
    have := (hW.2.lt g (by rw [e1]; rfl)).2
    omega
  have conS2 : Hid (∀ W la' lc', ((BoxIs W w.heap.size (.int .i64 x.kind) (.int .i64 x.n) (.string ⟨x.s.toArray⟩) (.slice ka x.keys.length kc) (.slice la x.l.length lc) ∧ BoxIs W (w.heap.size + 1) (.int .i64 0) (.int .i64 0) (.string ⟨#[]⟩) (.slice none 0 0) (.slice none 0 0) ∧ Below w.heap.size w W ∧ w.heap.size + 2 ≤ W.heap.size) ∧ W.ownsRow (w.heap.size + 2) 25 5 (.slice la' x.l.length lc') x.l.length cs) → Calls Tryd.prog 74 #[(.slice ka x.keys.length kc)] W fun e w' => ∃ ka' kc', e = .returned (.slice ka' x.keys.length kc') ∧ (BoxIs w' w.heap.size (.int .i64 x.kind) (.int .i64 x.n) (.string ⟨x.s.toArray⟩) (.slice ka x.keys.length kc) (.slice la x.l.length lc) ∧ BoxIs w' (w.heap.size + 1) (.int .i64 0) (.int .i64 0) (.string ⟨#[]⟩) (.slice none 0 0) (.slice none 0 0) ∧ Below w.heap.size w w' ∧ w.heap.size + 2 ≤ w'.heap.size) ∧ w'.ownsRow (w.heap.size + 2) 9 1 (.slice ka' x.keys.length kc') x.keys.length (x.keys.map str) ∧ w'.ownsRow (w.heap.size + 2) 25 5 (.slice la' x.l.length lc') x.l.length cs ∧ (∀ g, ka' = some ⟨g, 0, none⟩ → la' ≠ some ⟨g, 0, none⟩)) := by
    intro W la' lc' hW
    refine (cloneS W _ _ _ (SK.out.bel hW.1.2.2.1)).mono ?_
    rintro e w' ⟨v', rfl, ho, hb⟩
    obtain ⟨a, c, rfl, -, -, -, hg⟩ := own_form ho
    refine ⟨a, c, rfl, ⟨box_bel hb hW.1.1, box_bel hb hW.1.2.1, bel_trans hW.1.2.2.1 hb, Nat.le_trans hW.1.2.2.2 hb.size⟩, own_base ho hW.1.2.2.2, own_bel hW.2 hb, fun g e1 e2 => ?_⟩
    have := (hg g e1).1
    have := (hW.2.lt g (by rw [e2]; rfl)).2
    omega
  have midI : Hid (∀ (wb : World) (ka' la' : Option Addr) (kc' lc' : Nat), ((BoxIs wb w.heap.size (.int .i64 x.kind) (.int .i64 x.n) (.string ⟨x.s.toArray⟩) (.slice ka x.keys.length kc) (.slice la x.l.length lc) ∧ BoxIs wb (w.heap.size + 1) (.int .i64 0) (.int .i64 0) (.string ⟨#[]⟩) (.slice none 0 0) (.slice none 0 0) ∧ Below w.heap.size w wb ∧ w.heap.size + 2 ≤ wb.heap.size) ∧ wb.ownsRow (w.heap.size + 2) 9 1 (.slice ka' x.keys.length kc') x.keys.length (x.keys.map str) ∧ wb.ownsRow (w.heap.size + 2) 25 5 (.slice la' x.l.length lc') x.l.length cs ∧ (∀ g, ka' = some ⟨g, 0, none⟩ → la' ≠ some ⟨g, 0, none⟩)) → ∀ W, (W = (wb.setCell ⟨w.heap.size, 3, none⟩ (.slice ka' x.keys.length kc')).setCell ⟨w.heap.size, 4, none⟩ (.slice la' x.l.length lc') ∨ W = (wb.setCell ⟨w.heap.size, 4, none⟩ (.slice la' x.l.length lc')).setCell ⟨w.heap.size, 3, none⟩ (.slice ka' x.keys.length kc')) → TwI w x cs W) := by
    intro wb ka' la' kc' lc' hw W hW
    have g1 : ∀ (i j : Nat) (u v : Value), wb.grownBy ((wb.setCell ⟨w.heap.size, i, none⟩ u).setCell ⟨w.heap.size, j, none⟩ v) (some w.heap.size) := fun i j u v => gb_set (gb_set (gb_refl _ _) _ _) _ _
    refine ⟨ka', la', kc', lc', ?_⟩
    rcases hW with rfl | rfl
    · exact ⟨heap_set (heap_set hw.1.1 3 _) 4 _, hw.1.2.1.grown (g1 _ _ _ _) (by simp), gb_none (gb_setA (gb_setA (gb_below hw.1.2.2.1) (Nat.le_refl _) _ _) (Nat.le_refl _) _ _), own_kept' hw.2.1 (g1 _ _ _ _) (by omega), own_kept' hw.2.2.1 (g1 _ _ _ _) (by omega), hw.2.2.2⟩
    · exact ⟨heap_set (heap_set hw.1.1 4 _) 3 _, hw.1.2.1.grown (g1 _ _ _ _) (by simp), gb_none (gb_setA (gb_setA (gb_below hw.1.2.2.1) (Nat.le_refl _) _ _) (Nat.le_refl _) _ _), own_kept' hw.2.1 (g1 _ _ _ _) (by omega), own_kept' hw.2.2.1 (g1 _ _ _ _) (by omega), hw.2.2.2⟩
  go_enter Tryd.func61, Tryd.ntmps61
  go_upto_region 1 with fail
  go_cut [] (fun wc => TwI w x cs wc)
  case first =>
    go_region_with (first
      | (go_at_call 74; refine (conS1.out _ (bx0.out _ (by rfl) (by rfl) (by rfl) (by rfl))).mono ?_; rintro e wa ⟨ka', kc', rfl, hka⟩; obtain ⟨p0, p1, p2, p3, p4, p5, p6, p7, p8, p9⟩ := hka.1.1.c; have KA := hidI hka; clear hka)
      | (go_at_call 75; refine (conV1.out _ (bx0.out _ (by rfl) (by rfl) (by rfl) (by rfl))).mono ?_; rintro e wa ⟨la', lc', rfl, hka⟩; obtain ⟨p0, p1, p2, p3, p4, p5, p6, p7, p8, p9⟩ := hka.1.1.c; have KA := hidI hka; clear hka)
      | (go_at_call 74; refine (conS2.out _ la' lc' (by exact KA.out)).mono ?_; rintro e wb ⟨ka', kc', rfl, hkb⟩; clear p0 p1 p2 p3 p4 p5 p6 p7 p8 p9; obtain ⟨p0, p1, p2, p3, p4, p5, p6, p7, p8, p9⟩ := hkb.1.1.c; have KB := hidI hkb; clear hkb)
      | (go_at_call 75; refine (conV2.out _ ka' kc' (by exact KA.out)).mono ?_; rintro e wb ⟨la', lc', rfl, hkb⟩; clear p0 p1 p2 p3 p4 p5 p6 p7 p8 p9; obtain ⟨p0, p1, p2, p3, p4, p5, p6, p7, p8, p9⟩ := hkb.1.1.c; have KB := hidI hkb; clear hkb))
    all_goals
      go_wp2_with fail
      go_meet
      case rel => first | exact midI.out _ ka' la' kc' lc' KB.out _ (.inl rfl) | exact midI.out _ ka' la' kc' lc' KB.out _ (.inr rfl)
  case rest =>
    obtain ⟨ka', la', kc', lc', k1, k2, k3, k4, k5, k6⟩ := hcut
    have hcs := RW.out.length
    have KF := hidI k6
    have TL0 : Hid (TwL w x cs ka' la' kc' lc' 0 wc) := ⟨[], k1, k2, k3, k4, by simpa using k5, rfl⟩
    obtain ⟨a9, c9, e9, hla, hlc1, hlc2, hlg⟩ := own_form k5
    simp only [Value.slice.injEq] at e9
    obtain ⟨rfl, -, rfl⟩ := e9
    obtain ⟨p0, p1, p2, p3, p4, -⟩ := k1.c
    clear k1 k2 k3 k4 k5 k6 conS1 conS2 conV1 conV2 midI bx0 hlg
    go_wp2_with fail
    go_loopg [16] x.l.length (fun gk i wr => ∃ k : Nat, k ≤ x.l.length ∧ gk = x.l.length - k ∧ i = .int .i64 k ∧ TwL w x cs ka' la' kc' lc' k wr)
    case atStart => exact ⟨0, Nat.zero_le _, rfl, rfl, TL0.out⟩
    case round =>
      obtain ⟨k, hk, hgk, rfl, ns, i1, i2, i3, i4, i5, i6⟩ := hrel
      have GK := hidI hgk
      have I : Hid (BoxIs wr w.heap.size (.int .i64 x.kind) (.int .i64 x.n) (.string ⟨x.s.toArray⟩) (.slice ka' x.keys.length kc') (.slice la' x.l.length lc') ∧ BoxIs wr (w.heap.size + 1) (.int .i64 0) (.int .i64 0) (.string ⟨#[]⟩) (.slice none 0 0) (.slice none 0 0) ∧ Below w.heap.size w wr ∧ wr.ownsRow (w.heap.size + 2) 9 1 (.slice ka' x.keys.length kc') x.keys.length (x.keys.map str) ∧ wr.ownsRow (w.heap.size + 2) 25 5 (.slice la' x.l.length lc') x.l.length (ns ++ cs.drop (k * 5)) ∧ RowV (In wr (fun j => w.heap.size + 2 ≤ j ∧ la' ≠ some ⟨j, 0, none⟩)) (x.l.take k) ns) := ⟨i1, i2, i3, i4, i5, i6⟩
      clear hgk i1 i2 i3 i4 i5 i6 p0 p1 p2 p3 p4
      by_cases hlt : k < x.l.length
      · obtain ⟨gl, rfl⟩ : ∃ gl, la' = some ⟨gl, 0, none⟩ := by
          rcases hla with h0 | h0
          · omega
          · exact h0
        obtain ⟨v0, v1, v2, v3, v4, g0, g1, g2, g3, g4, g5⟩ := RW.out.get k x.l[k] (List.getElem?_eq_getElem hlt)
        have hns : ns.length = k * 5 := by have := I.out.2.2.2.2.2.length; rw [List.length_take, Nat.min_eq_left hk] at this; exact this
        have G5 := hidI g5
        have hdrop : cs.drop (k * 5) = v0 :: v1 :: v2 :: v3 :: v4 :: cs.drop ((k + 1) * 5) := drop5 g0 g1 g2 g3 g4
        obtain ⟨rfl, rfl, rfl, ⟨a5, c5, rfl⟩, ⟨a6, c6, rfl⟩⟩ := g5.agg
        have DR := hidI hdrop
        have hgl := (I.out.2.2.2.2.1.lt gl rfl)
        have cel := own_cells5 (by rw [← hdrop]; exact I.out.2.2.2.2.1) hns
        obtain ⟨m0, m1, m2, m3, m4⟩ := cel
        obtain ⟨p0, p1, p2, p3, p4, -⟩ := I.out.1.c
        have p4' := (box_bel (bel_alloc wr (.cells #[.int .i64 x.l[k].kind, .int .i64 x.l[k].n, .string ⟨x.l[k].s.toArray⟩, .slice a5 x.l[k].keys.length c5, .slice a6 x.l[k].l.length c6] 25)) I.out.1).c.2.2.2.2.1
        have con5 : Hid (∀ W, W.heap = (wr.alloc (.cells #[.int .i64 x.l[k].kind, .int .i64 x.l[k].n, .string ⟨x.l[k].s.toArray⟩, .slice a5 x.l[k].keys.length c5, .slice a6 x.l[k].l.length c6] 25)).heap → W.os = wr.os → W.tape = wr.tape → W.output = wr.output → Calls Tryd.prog 61 #[.agg #[.int .i64 x.l[k].kind, .int .i64 x.l[k].n, .string ⟨x.l[k].s.toArray⟩, .slice a5 x.l[k].keys.length c5, .slice a6 x.l[k].l.length c6]] W fun e w' => ∃ (b5 b6 : Option Addr) (d5 d6 : Nat), e = .returned (.agg #[.int .i64 x.l[k].kind, .int .i64 x.l[k].n, .string ⟨x.l[k].s.toArray⟩, .slice b5 x.l[k].keys.length d5, .slice b6 x.l[k].l.length d6]) ∧ w'.cell? ⟨w.heap.size, 4, none⟩ = some (.slice (some ⟨gl, 0, none⟩) x.l.length lc') ∧
            (Own5 w' gl (k * 5)) ∧ ∀ W', W' = set5a w' gl (k * 5) (.int .i64 x.l[k].kind) (.int .i64 x.l[k].n) (.string ⟨x.l[k].s.toArray⟩) (.slice b5 x.l[k].keys.length d5) (.slice b6 x.l[k].l.length d6) → TwL w x cs ka' (some ⟨gl, 0, none⟩) kc' lc' (k + 1) W') := by
          intro W e1 e2 e3 e4
          have hbW : Below wr.heap.size wr W := by
            have := bel_alloc wr (.cells #[.int .i64 x.l[k].kind, .int .i64 x.l[k].n, .string ⟨x.l[k].s.toArray⟩, .slice a5 x.l[k].keys.length c5, .slice a6 x.l[k].l.length c6] 25)
            exact ⟨e2, e3, e4, by rw [e1]; exact this.size, fun j hj => by rw [e1]; exact this.block j hj⟩
          refine (IH.out W ok x.l[k] _ (G5.out.bel (bel_trans I.out.2.2.1 hbW)) (nice_mem HN.out (List.getElem_mem _))).mono ?_
          rintro e w' ⟨r, rfl, hb, hr⟩
          obtain ⟨b5, b6, d5, d6, rfl⟩ := hr.form
          have hb3 := bel_trans hbW hb
          have oL := own_bel I.out.2.2.2.2.1 hb3
          rw [DR.out] at oL
          have hWs : wr.heap.size ≤ W.heap.size := hbW.size
          refine ⟨b5, b6, d5, d6, rfl, (box_bel hb3 I.out.1).c.2.2.2.2.1, own5_of oL hns, ?_⟩
          rintro W' rfl
          have gs := set5a_gb w' gl (k * 5) (.int .i64 x.l[k].kind) (.int .i64 x.l[k].n) (.string ⟨x.l[k].s.toArray⟩) (.slice b5 x.l[k].keys.length d5) (.slice b6 x.l[k].l.length d6)
          refine ⟨ns ++ [.int .i64 x.l[k].kind, .int .i64 x.l[k].n, .string ⟨x.l[k].s.toArray⟩, .slice b5 x.l[k].keys.length d5, .slice b6 x.l[k].l.length d6], (box_bel hb3 I.out.1).grown gs (by simp; omega), (box_bel hb3 I.out.2.1).grown gs (by simp; omega), bel_set5a (bel_trans I.out.2.2.1 hb3) (by omega) _ _ _ _ _ _, ?_, ?_, ?_⟩
          · refine (own_bel I.out.2.2.2.1 hb3).kept gs ?_
            rcases own_block I.out.2.2.2.1 with e | ⟨g, e⟩
            · rw [e]; exact .inl rfl
            · rw [e]
              refine .inr fun e9 => KF.out g e ?_
              simp only [Value.ownBlock, Option.some.injEq] at e9
              rw [e9]
          · have := own_set (d0 := .int .i64 x.l[k].kind) (d1 := .int .i64 x.l[k].n) (d2 := .string ⟨x.l[k].s.toArray⟩) (d3 := .slice b5 x.l[k].keys.length d5) (d4 := .slice b6 x.l[k].l.length d6) oL
            rw [hns] at this
            rw [List.append_assoc]
            exact this
          · rw [List.take_add_one, List.getElem?_eq_getElem hlt]
            refine RowV.append (ys := [x.l[k]]) ⟨_, _, _, _, _, [], rfl, (hr.weak (ok' := fun j => w.heap.size + 2 ≤ j ∧ some ⟨gl, 0, none⟩ ≠ some (⟨j, 0, none⟩ : Addr)) (fun j hj => ⟨by omega, fun e => by simp only [Option.some.injEq, Addr.mk.injEq, and_true] at e; omega⟩)).grown gs (fun j hj e => hj.2 (by rw [e])), rfl⟩ (I.out.2.2.2.2.2.imp fun y v hy => (hy.bel hb3).grown gs (fun j hj e => hj.2 (by rw [e])))
        clear g0 g1 g2 g3 g4 g5 hdrop
        go_upto_region 5 with fail
        go_region_with ((go_at_call 61; refine (con5.out _ (by rfl) (by rfl) (by rfl) (by rfl)).mono ?_; rintro e w2 ⟨b5, b6, d5, d6, rfl, hp4, hown, hfin⟩; obtain ⟨⟨t0, n0⟩, ⟨t1, n1⟩, ⟨t2, n2⟩, ⟨t3, n3⟩, ⟨t4, n4⟩, f0, f1, f2, f3, f4⟩ := hown; have FIN := hidI hfin; clear hfin))
        all_goals
          go_wp2_with fail
          go_roundg (x.l.length - (k + 1))
          case measure => rw [GK.out]; omega
          case rel => exact ⟨k + 1, hlt, rfl, by go_num, FIN.out _ rfl⟩
      · have hke : k = x.l.length := by omega
        subst hke
        obtain ⟨D, hD⟩ := row_depth I.out.2.2.2.2.2
        rw [List.take_length] at hD
        have oL := I.out.2.2.2.2.1
        rw [← hcs, List.drop_length, List.append_nil] at oL
        have hin : In wr (fun j => w.heap.size + 2 ≤ j) x (.agg #[.int .i64 x.kind, .int .i64 x.n, .string ⟨x.s.toArray⟩, .slice ka' x.keys.length kc', .slice la' x.l.length lc']) := ⟨D + 1, _, _, rfl, KK.out.1, KK.out.2.1, KK.out.2.2.1, own_strs rfl I.out.2.2.2.1 KK.out.2.2.2 (fun j hj => hj) (by unfold maxLen; omega), own_vals rfl oL (hD.imp fun _ _ h => h.weak fun j hj => hj.1) (fun j hj => hj) (by unfold maxLen; omega)⟩
        obtain ⟨p0, p1, p2, p3, p4, -⟩ := I.out.1.c
        obtain ⟨x0, x1, x2, x3, x4, y0, y1, y2, y3, y4⟩ := I.out.2.1.c
        have ZI := hidI ((hin.grown (set5_gb wr (w.heap.size + 1) (.int .i64 x.kind) (.int .i64 x.n) (.string ⟨x.s.toArray⟩) (.slice ka' x.keys.length kc') (.slice la' x.l.length lc')) (fun j hj e => by omega)).weak (ok' := fun j => w.heap.size ≤ j) (fun j hj => by omega))
        have ZW := hidI (bel_set5 I.out.2.2.1 (Nat.le_succ w.heap.size) (.int .i64 x.kind) (.int .i64 x.n) (.string ⟨x.s.toArray⟩) (.slice ka' x.keys.length kc') (.slice la' x.l.length lc'))
        have ZB := hidI (I.out.2.1.set (.int .i64 x.kind) (.int .i64 x.n) (.string ⟨x.s.toArray⟩) (.slice ka' x.keys.length kc') (.slice la' x.l.length lc'))
        clear hin oL hD
        go_wp2_with fail
        obtain ⟨z0, z1, z2, z3, z4, -⟩ := ZB.out.c
        refine bodyPost_ret (v := .agg #[.int .i64 x.kind, .int .i64 x.n, .string ⟨x.s.toArray⟩, .slice ka' x.keys.length kc', .slice la' x.l.length lc']) ?_ rfl ?_
        · simp only [set5] at z0 z1 z2 z3 z4
          simp [results, Tryd.results61, go_sem, z0, z1, z2, z3, z4]
        · exact ⟨_, rfl, ZW.out, ZI.out⟩
theorem twin_all (d : Nat) : TwinC d := by
  induction d with
  | zero => exact fun _ _ _ _ h _ => h.elim
  | succ d ih => exact twin_succ d ih
theorem twin_is (w : World) (ok : Nat → Prop) (x : V) (xv : Value) (h : In w ok x xv) (hn : Nice x) :
    Calls Tryd.prog 61 #[xv] w fun e w' => ∃ r, e = .returned r ∧ Below w.heap.size w w' ∧ In w' (fun k => w.heap.size ≤ k) x r := by
  obtain ⟨d, h⟩ := h; exact twin_all d w ok x xv h hn
theorem nice_get : ∀ (ns : List (List UInt8)) (t y : V), Nice t → getV ns t = some y → Nice y
  | [], t, y, ht, h => by rw [getV] at h; cases h; exact ht
  | s :: ns, t, y, ht, h => by
    rw [getV, Option.bind_eq_some_iff] at h
    obtain ⟨u, h1, h2⟩ := h
    exact nice_get ns u y (nice_meant ht h1) h2
end Go.Proofs.YtaifciobaapehaaDoor
