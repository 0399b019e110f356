/- What WithoutMember of package stairwellref does. -/
import Derived.Test.YtfbddgpekbhpfaaDoorFr
set_option linter.unusedSimpArgs false
set_option linter.unusedVariables false
namespace Go.Proofs.YtfbddgpekbhpfaaDoor
open Go.RowKit

/- Of the first k members those that stay are made. -/
def FO (w : World) (t : V) (a1 a2 : Option Addr) (c1 c2 : Nat) (W : World) : Prop := BoxIs W w.heap.size (.int .i64 t.kind) (.int .i64 t.n) (.string ⟨t.s.toArray⟩) (.slice a1 t.keys.length c1) (.slice a2 t.l.length c2) ∧ BoxIs W (w.heap.size + 1) (.int .i64 0) (.int .i64 0) (.string ⟨#[]⟩) (.slice none 0 0) (.slice none 0 0)
theorem FO.stays (w : World) (t : V) (a1 a2 : Option Addr) (c1 c2 : Nat) : Stays (w.heap.size + 2 + 1) (FO w t a1 a2 c1 c2) := fun W W' r h1 h2 h3 =>
  ⟨bx_stays (B := w.heap.size + 2 + 1) (by omega) W W' r h1.1 h2 h3, bx_stays (B := w.heap.size + 2 + 1) (by omega) W W' r h1.2 h2 h3⟩
def WoI (w : World) (ok : Nat → Prop) (d : Nat) (t : V) (key : List UInt8) (a1 a2 : Option Addr) (c1 c2 k : Nat) (wr : World) : Prop :=
  ∃ ps kv lv, SO w 2 (FO w t a1 a2 c1 c2) kv lv wr ∧ OE w ok (w.heap.size + 2 + 1) d (ps.map Prod.fst) (ps.map Prod.snd) kv lv wr ∧ ps ++ woF key ((t.keys.zip t.l).drop k) = woF key (t.keys.zip t.l) ∧ w.heap.size + 2 + 1 ≤ wr.heap.size
theorem zip_drop {ks : List (List UInt8)} {l : List V} {k : Nat} (h1 : k < ks.length) (h2 : k < l.length) : (ks.zip l).drop k = (ks[k], l[k]) :: (ks.zip l).drop (k + 1) := by
  have h : k < (ks.zip l).length := by simp; omega
  rw [List.drop_eq_getElem_cons h]; simp
theorem wo_more {w W : World} {ok : Nat → Prop} {d : Nat} {t : V} {key : List UInt8} {a1 a2 : Option Addr} {c1 c2 k : Nat} {ps : List (List UInt8 × V)} {kv lv kv' lv' : Value} (hl : t.keys.length = t.l.length) (h1 : k < t.keys.length) (h2 : k < t.l.length) (hne : t.keys[k] ≠ key)
    (hps : ps ++ woF key ((t.keys.zip t.l).drop k) = woF key (t.keys.zip t.l)) (hs : SO w 2 (FO w t a1 a2 c1 c2) kv lv W) (ho : OE w ok (w.heap.size + 2 + 1) d (ps.map Prod.fst ++ [t.keys[k]]) (ps.map Prod.snd ++ [t.l[k]]) kv' lv' W) :
    WoI w ok d t key a1 a2 c1 c2 (k + 1) ((W.setCell ⟨w.heap.size + 2, 3, none⟩ kv').setCell ⟨w.heap.size + 2, 4, none⟩ lv') := by
  refine ⟨ps ++ [(t.keys[k], t.l[k])], kv', lv', hs.stored (fun W i x h => ⟨bx_set h.1 (by omega) i x, bx_set h.2 (by omega) i x⟩), ?_, ?_, ?_⟩
  · rw [List.map_append, List.map_append]
    exact (ho.set (by omega) (by omega) _ _).set (by omega) (by omega) _ _
  · rw [← hps, zip_drop h1 h2]
    simp [woF, List.filter_cons, hne]
  · have := hs.1.lt
    have e : ((W.setCell ⟨w.heap.size + 2, 3, none⟩ kv').setCell ⟨w.heap.size + 2, 4, none⟩ lv').heap.size = W.heap.size := by simp [World.setCell]
    omega
theorem wo_less {w wr : World} {ok : Nat → Prop} {d : Nat} {t : V} {key : List UInt8} {a1 a2 : Option Addr} {c1 c2 k : Nat} (hl : t.keys.length = t.l.length) (h1 : k < t.keys.length) (he : t.keys[k] = key) (h : WoI w ok d t key a1 a2 c1 c2 k wr) : WoI w ok d t key a1 a2 c1 c2 (k + 1) wr := by
  obtain ⟨ps, kv, lv, i1, i2, i3, i4⟩ := h
  refine ⟨ps, kv, lv, i1, i2, ?_, i4⟩
  rw [← i3, zip_drop h1 (by omega)]
  simp [woF, List.filter_cons, he]

attribute [local go_sem ↓] Go.wp_at_zero Go.wp_at_succ
set_option maxRecDepth 100000 in
set_option maxHeartbeats 4000000 in
theorem rwithout_at (w : World) (ok : Nat → Prop) (d : Nat) (t : V) (v : Value) (key : List UInt8) (h : VIs w ok (d + 1) t v) (ho : Ob t) (hl : t.l.length ≤ 100000) :
    Calls Tryd.prog 20 #[v, str key] w fun e w' => ∃ r, e = .returned r ∧ VIs w' (okN ok w.heap.size) (d + 1) (withoutV t key) r ∧ Below w.heap.size w w' := by
  obtain ⟨a1, a2, c1, c2, rfl⟩ := h.shape
  have OB := hidI ho
  have HL := hidI ho.2.2.2.1
  have VV : Hid (ValsAre w ok (VIs w ok d) t.l (.slice a2 t.l.length c2) ∧ StrsAre w ok t.keys (.slice a1 t.keys.length c1)) := hidI (by
    obtain ⟨ks, ls, e, h1, h2, h3, h4, h5⟩ := h
    simp only [Value.agg.injEq, Array.mk.injEq, List.cons.injEq, and_true] at e
    obtain ⟨-, -, -, rfl, rfl⟩ := e
    exact ⟨h5, h4⟩)
  have lk : t.keys.length ≤ 100000 := by rw [HL.out]; exact hl
  clear h ho
  unfold str
  have HF : Hid _ := hidI (FO.stays w t a1 a2 c1 c2)
  have I0 : Hid (WoI w ok d t key a1 a2 c1 c2 0 (((w.alloc (.cells #[.int .i64 t.kind, .int .i64 t.n, .string ⟨t.s.toArray⟩, .slice a1 t.keys.length c1, .slice a2 t.l.length c2] 25)).alloc (.cells #[.int .i64 0, .int .i64 0, .string ⟨#[]⟩, .slice none 0 0, .slice none 0 0] 25)).alloc (.cells #[.int .i64 5, .int .i64 0, .string ⟨#[]⟩, .slice none 0 0, .slice none 0 0] 25))) := hidI (by
    have hb : Below w.heap.size w (((w.alloc (.cells #[.int .i64 t.kind, .int .i64 t.n, .string ⟨t.s.toArray⟩, .slice a1 t.keys.length c1, .slice a2 t.l.length c2] 25)).alloc (.cells #[.int .i64 0, .int .i64 0, .string ⟨#[]⟩, .slice none 0 0, .slice none 0 0] 25)).alloc (.cells #[.int .i64 5, .int .i64 0, .string ⟨#[]⟩, .slice none 0 0, .slice none 0 0] 25)) := bel_trans (bel_trans (bel_alloc _ _) (bel_alloc _ _)) (bel_alloc _ _)
    refine ⟨[], .slice none 0 0, .slice none 0 0, ⟨?_, ⟨?_, ?_⟩, hb⟩, OE.nil hb (by omega), by simp, by simp⟩
    · exact h3c w _ _ _
    · exact h3a w _ _ _
    · exact h3b w _ _ _)
  go_enter Tryd.func20, Tryd.ntmps20
  go_wp2_with fail
  go_loopg [12] t.keys.length (fun gk i wr => ∃ k : Nat, k ≤ t.keys.length ∧ gk = t.keys.length - k ∧ i = .int .i64 k ∧ WoI w ok d t key a1 a2 c1 c2 k wr)
  case atStart => exact ⟨0, Nat.zero_le _, rfl, rfl, I0.out⟩
  case round =>
    obtain ⟨k, hk, hgk, rfl, hI⟩ := hrel
    have GK := hidI hgk
    have II := hidI hI
    clear hgk hI I0
    by_cases hlt : k < t.keys.length
    · have hlt' : k < t.l.length := by have := HL.out; omega
      obtain ⟨kb, ko, rfl, j1, j2, jk⟩ := strs_at VV.out.2 hlt
      have w1 : (0 : Int) ≤ (k : Int) := by omega
      have w2 : (k : Int) < (t.keys.length : Int) := by omega
      have w3 : (k : Int) < (t.l.length : Int) := by omega
      unfold maxLen at j2
      by_cases he : t.keys[k] = key
      · have e3 : (t.keys[k] == key) = true := by simp [he]
        have HN := hidI (wo_less HL.out hlt he II.out)
        have jk2 := cell_bel (by obtain ⟨ps, kv, lv, i1, -⟩ := II.out; exact i1.2.2) jk
        clear he
        go_wp2_with fail
        go_roundg (t.keys.length - (k + 1))
        case measure => rw [GK.out]; omega
        case rel => exact ⟨k + 1, hlt, rfl, by go_num, HN.out⟩
      · have e3 : (t.keys[k] == key) = false := by simp [he]
        have HNE := hidI he
        obtain ⟨xb, xo, rfl, j3, j4, a5, c5, a6, c6, g0, g1, g2, g3, g4, g5⟩ := vals_at VV.out.1 hlt'
        unfold maxLen at j4
        have G0 := hidI g0
        have G1 := hidI g1
        have G2 := hidI g2
        have G3 := hidI g3
        have G4 := hidI g4
        have HY := hidI g5.below
        obtain ⟨ps, kv, lv, i1, i2, i3, i4⟩ := II.out
        have jk2 := cell_bel i1.2.2 jk
        have HPS := hidI i3
        have hpl : ps.length ≤ 100000 := by
          have h0 := congrArg List.length i3
          have h1 : (woF key (t.keys.zip t.l)).length ≤ (t.keys.zip t.l).length := List.length_filter_le _ _
          simp at h0 h1
          omega
        have hnk : (ps.map Prod.fst).length ≤ 1000000 := by rw [List.length_map]; omega
        have hnl : (ps.map Prod.snd).length ≤ 1000000 := by rw [List.length_map]; omega
        have OEc := hidI i2
        have hBc : w.heap.size + 2 + 1 ≤ wr.heap.size := i4
        have SOc := hidI i1
        have LK : Hid (∀ g, kv.ownBlock = some g → g < wr.heap.size) := hidI (fun g e => (i2.kown g e).2)
        clear he g0 g1 g2 g3 g4 g5 i1 i2 i3 i4 hpl
        go_upto_region 6 with fail
        refine wp_region_T (SO w 2 (FO w t (some ⟨kb, ko, none⟩) (some ⟨xb, xo, none⟩) c1 c2) kv lv) [15] (by kernel_rfl) (SOc.out.drew HF.out) (fun hHeld => ?_)
        refine wpAnyT_take (i := 0) (v := ?_) [1, 4, 13, 14, 15, 16, 17] (oi := { dst := some 20, op := Go.Op.fieldAddr 25 (Go.Operand.tmp 5) 3, type := 0, pos := "low.go:352", after := #[], guard := none }) rfl (by kernel_rfl) (by kernel_rfl) (by kernel_rfl) (by kernel_rfl) (fun _ _ _ h => h) (Or.inl ⟨by rfl, ?_⟩) hHeld ?_
        rotate_left
        · intro wS hSw
          go_simp
          all_goals with_reducible rfl
        simp only [Act.put, List.setIfInBounds_toArray, List.set_cons_zero, List.set_cons_succ]
        refine wpAnyT_take (i := 1) (v := ?_) [4, 13, 14, 15, 16, 17] (oi := { dst := some 21, op := Go.Op.load 22 (Go.Operand.tmp 20), type := 22, pos := "low.go:352", after := #[{ on := 0, ground := Go.Ground.data }], guard := none }) rfl (by kernel_rfl) (by kernel_rfl) (by kernel_rfl) (by kernel_rfl) (fun _ _ _ h => h) (Or.inl ⟨by rfl, ?_⟩) hHeld ?_
        rotate_left
        · intro wS hSw
          obtain ⟨s1, ⟨s2, s3⟩, s4⟩ := hSw
          obtain ⟨x0, x1, x2, x3, x4, -⟩ := s1.c
          obtain ⟨y0, y1, y2, y3, y4, -⟩ := s2.c
          have e0 := cell_bel s4 G0.out
          have e1 := cell_bel s4 G1.out
          have e2 := cell_bel s4 G2.out
          have e3 := cell_bel s4 G3.out
          have e4 := cell_bel s4 G4.out
          go_simp
          all_goals with_reducible rfl
        simp only [Act.put, List.setIfInBounds_toArray, List.set_cons_zero, List.set_cons_succ]
        refine wpAnyT_take (i := 2) (v := ?_) [3, 4, 13, 14, 15, 16, 17] (oi := { dst := some 22, op := Go.Op.move (Go.Operand.tmp 7), type := 9, pos := "low.go:352", after := #[], guard := none }) rfl (by kernel_rfl) (by kernel_rfl) (by kernel_rfl) (by kernel_rfl) (fun _ _ _ h => h) (Or.inl ⟨by rfl, ?_⟩) hHeld ?_
        rotate_left
        · intro wS hSw
          go_simp
          all_goals with_reducible rfl
        simp only [Act.put, List.setIfInBounds_toArray, List.set_cons_zero, List.set_cons_succ]
        refine wpAnyT_take (i := 5) (v := ?_) [6, 13, 14, 15, 16, 17] (oi := { dst := some 25, op := Go.Op.fieldAddr 25 (Go.Operand.tmp 5) 4, type := 0, pos := "low.go:352", after := #[], guard := none }) rfl (by kernel_rfl) (by kernel_rfl) (by kernel_rfl) (by kernel_rfl) (fun _ _ _ h => h) (Or.inl ⟨by rfl, ?_⟩) hHeld ?_
        rotate_left
        · intro wS hSw
          go_simp
          all_goals with_reducible rfl
        simp only [Act.put, List.setIfInBounds_toArray, List.set_cons_zero, List.set_cons_succ]
        refine wpAnyT_take (i := 6) (v := ?_) [13, 14, 15, 16, 17] (oi := { dst := some 26, op := Go.Op.load 23 (Go.Operand.tmp 25), type := 23, pos := "low.go:352", after := #[{ on := 5, ground := Go.Ground.data }], guard := none }) rfl (by kernel_rfl) (by kernel_rfl) (by kernel_rfl) (by kernel_rfl) (fun _ _ _ h => h) (Or.inl ⟨by rfl, ?_⟩) hHeld ?_
        rotate_left
        · intro wS hSw
          obtain ⟨s1, ⟨s2, s3⟩, s4⟩ := hSw
          obtain ⟨x0, x1, x2, x3, x4, -⟩ := s1.c
          obtain ⟨y0, y1, y2, y3, y4, -⟩ := s2.c
          have e0 := cell_bel s4 G0.out
          have e1 := cell_bel s4 G1.out
          have e2 := cell_bel s4 G2.out
          have e3 := cell_bel s4 G3.out
          have e4 := cell_bel s4 G4.out
          go_simp
          all_goals with_reducible rfl
        simp only [Act.put, List.setIfInBounds_toArray, List.set_cons_zero, List.set_cons_succ]
        refine wpAnyT_take (i := 7) (v := ?_) [8, 10, 11, 12, 13, 15, 16, 17] (oi := { dst := some 27, op := Go.Op.fieldAddr 25 (Go.Operand.tmp 2) 4, type := 0, pos := "low.go:352", after := #[], guard := none }) rfl (by kernel_rfl) (by kernel_rfl) (by kernel_rfl) (by kernel_rfl) (fun _ _ _ h => h) (Or.inl ⟨by rfl, ?_⟩) hHeld ?_
        rotate_left
        · intro wS hSw
          go_simp
          all_goals with_reducible rfl
        simp only [Act.put, List.setIfInBounds_toArray, List.set_cons_zero, List.set_cons_succ]
        refine wpAnyT_take (i := 8) (v := ?_) [10, 11, 12, 13, 15, 16, 17] (oi := { dst := some 28, op := Go.Op.load 23 (Go.Operand.tmp 27), type := 23, pos := "low.go:352", after := #[{ on := 7, ground := Go.Ground.data }], guard := none }) rfl (by kernel_rfl) (by kernel_rfl) (by kernel_rfl) (by kernel_rfl) (fun _ _ _ h => h) (Or.inl ⟨by rfl, ?_⟩) hHeld ?_
        rotate_left
        · intro wS hSw
          obtain ⟨s1, ⟨s2, s3⟩, s4⟩ := hSw
          obtain ⟨x0, x1, x2, x3, x4, -⟩ := s1.c
          obtain ⟨y0, y1, y2, y3, y4, -⟩ := s2.c
          have e0 := cell_bel s4 G0.out
          have e1 := cell_bel s4 G1.out
          have e2 := cell_bel s4 G2.out
          have e3 := cell_bel s4 G3.out
          have e4 := cell_bel s4 G4.out
          go_simp
          all_goals with_reducible rfl
        simp only [Act.put, List.setIfInBounds_toArray, List.set_cons_zero, List.set_cons_succ]
        refine wpAnyT_take (i := 9) (v := ?_) [10, 11, 12, 13, 15, 16, 17] (oi := { dst := some 29, op := Go.Op.move (Go.Operand.tmp 6), type := 3, pos := "low.go:352", after := #[], guard := none }) rfl (by kernel_rfl) (by kernel_rfl) (by kernel_rfl) (by kernel_rfl) (fun _ _ _ h => h) (Or.inl ⟨by rfl, ?_⟩) hHeld ?_
        rotate_left
        · intro wS hSw
          go_simp
          all_goals with_reducible rfl
        simp only [Act.put, List.setIfInBounds_toArray, List.set_cons_zero, List.set_cons_succ]
        refine wpAnyT_take (i := 10) (v := ?_) [11, 12, 13, 15, 16, 17] (oi := { dst := some 30, op := Go.Op.indexAddr 23 (Go.Operand.tmp 28) (Go.Operand.tmp 29), type := 0, pos := "low.go:352", after := #[{ on := 8, ground := Go.Ground.data }, { on := 9, ground := Go.Ground.data }], guard := none }) rfl (by kernel_rfl) (by kernel_rfl) (by kernel_rfl) (by kernel_rfl) (fun _ _ _ h => h) (Or.inl ⟨by rfl, ?_⟩) hHeld ?_
        rotate_left
        · intro wS hSw
          go_simp
          all_goals with_reducible rfl
        simp only [Act.put, List.setIfInBounds_toArray, List.set_cons_zero, List.set_cons_succ]
        refine wpAnyT_take (i := 11) (v := ?_) [12, 13, 15, 16, 17] (oi := { dst := some 31, op := Go.Op.load 25 (Go.Operand.tmp 30), type := 25, pos := "low.go:352", after := #[{ on := 10, ground := Go.Ground.data }], guard := none }) rfl (by kernel_rfl) (by kernel_rfl) (by kernel_rfl) (by kernel_rfl) (fun _ _ _ h => h) (Or.inl ⟨by rfl, ?_⟩) hHeld ?_
        rotate_left
        · intro wS hSw
          obtain ⟨s1, ⟨s2, s3⟩, s4⟩ := hSw
          obtain ⟨x0, x1, x2, x3, x4, -⟩ := s1.c
          obtain ⟨y0, y1, y2, y3, y4, -⟩ := s2.c
          have e0 := cell_bel s4 G0.out
          have e1 := cell_bel s4 G1.out
          have e2 := cell_bel s4 G2.out
          have e3 := cell_bel s4 G3.out
          have e4 := cell_bel s4 G4.out
          go_simp
          all_goals with_reducible rfl
        simp only [Act.put, List.setIfInBounds_toArray, List.set_cons_zero, List.set_cons_succ]
        refine wpAnyT_ready (rs := [3, 12]) (by kernel_rfl) (by simp) ?_
        refine AllReadyT.cons (i := 3) (o := { dst := some 23, op := Go.Op.buildSlice 22 1 #[(0, Go.Operand.tmp 22)], type := 22, pos := "low.go:352", after := #[{ on := 2, ground := Go.Ground.data }], guard := none }) rfl (fun K hK => ?_) ?_
        · go_simp
          replace SOc := hidI (SOc.out.alloc HF.out (.cells #[.string ⟨t.keys[k].toArray⟩] 9))
          replace OEc := hidI (OEc.out.bel (bel_alloc _ (.cells #[.string ⟨t.keys[k].toArray⟩] 9)))
          replace hBc := Nat.le_trans hBc (bel_alloc _ (.cells #[.string ⟨t.keys[k].toArray⟩] 9)).size
          have NBK : Hid ((wr.alloc (.cells #[.string ⟨t.keys[k].toArray⟩] 9)).heap[wr.heap.size]? = some (.cells #[.string ⟨t.keys[k].toArray⟩] 9)) := hidI (heap_alloc_new _ _)
          refine hK.out _ _ (SOc.out.drew HF.out) (fun hHeld2 => ?_)
          clear hK K
          replace hHeld := hHeld2
          clear hHeld2
          try simp only [Act.put, List.setIfInBounds_toArray, List.set_cons_zero, List.set_cons_succ]
          refine wpAnyT_ready (rs := [4, 12]) (by kernel_rfl) (by simp) ?_
          refine AllReadyT.cons (i := 4) (o := { dst := some 24, op := Go.Op.call { callee := Go.Callee.builtin Go.Builtin.append, args := #[Go.Operand.tmp 21, Go.Operand.tmp 23], argTypes := #[22, 22] }, type := 22, pos := "low.go:352", after := #[{ on := 1, ground := Go.Ground.data }, { on := 3, ground := Go.Ground.data }], guard := none }) rfl (fun K hK => ?_) ?_
          · have OEd := hidI OEc.out.drew
            have NBd : Hid (((wr.alloc (.cells #[.string ⟨t.keys[k].toArray⟩] 9)).drew).heap[wr.heap.size]? = some (.cells #[.string ⟨t.keys[k].toArray⟩] 9)) := hidI NBK.out
            refine step_run (by rfl) (.tmp 21) (.tmp 23) 22 (by rfl) _ _ rfl rfl _ (fun ty => OEd.out.key NBd.out hnk (by exact hBc) ty) (fun v9 W9 hR => ?_)
            obtain ⟨ho9, hg9, gK, cK, rfl⟩ := hR
            replace SOc := hidI (hHeld.grown HF.out hg9 (fun g e => (OEd.out.kown g e).1))
            refine hK.out _ _ SOc.out (fun hHeld2 => ?_)
            replace OEc := hidI ho9
            replace hBc := Nat.le_trans (by exact hBc) hg9.size
            clear ho9 hg9 OEd NBd
            clear hK K
            replace hHeld := hHeld2
            clear hHeld2
            try simp only [Act.put, List.setIfInBounds_toArray, List.set_cons_zero, List.set_cons_succ]
            refine wpAnyT_take (i := 14) (v := ?_) [15, 16, 17] (oi := { dst := some 34, op := Go.Op.fieldAddr 25 (Go.Operand.tmp 5) 3, type := 0, pos := "low.go:352", after := #[{ on := 0, ground := Go.Ground.phase }, { on := 1, ground := Go.Ground.phase }, { on := 2, ground := Go.Ground.phase }, { on := 3, ground := Go.Ground.phase }, { on := 4, ground := Go.Ground.phase }, { on := 5, ground := Go.Ground.phase }, { on := 6, ground := Go.Ground.phase }, { on := 7, ground := Go.Ground.textOnly Go.Departure.lateStores }, { on := 8, ground := Go.Ground.textOnly Go.Departure.lateStores }, { on := 9, ground := Go.Ground.textOnly Go.Departure.lateStores }, { on := 10, ground := Go.Ground.textOnly Go.Departure.lateStores }, { on := 11, ground := Go.Ground.textOnly Go.Departure.lateStores }, { on := 12, ground := Go.Ground.textOnly Go.Departure.lateStores }, { on := 13, ground := Go.Ground.textOnly Go.Departure.lateStoresUnsure }], guard := none }) rfl (by kernel_rfl) (by kernel_rfl) (by kernel_rfl) (by kernel_rfl) (fun _ _ _ h => h) (Or.inl ⟨by rfl, ?_⟩) hHeld ?_
            rotate_left
            · intro wS hSw
              go_simp
              all_goals with_reducible rfl
            simp only [Act.put, List.setIfInBounds_toArray, List.set_cons_zero, List.set_cons_succ]
            refine wpAnyT_ready (rs := [12]) (by kernel_rfl) (by simp) ?_
            refine AllReadyT.cons (i := 12) (o := { dst := some 32, op := Go.Op.buildSlice 23 1 #[(0, Go.Operand.tmp 31)], type := 23, pos := "low.go:352", after := #[{ on := 11, ground := Go.Ground.data }], guard := none }) rfl (fun K hK => ?_) ?_
            · go_simp
              replace SOc := hidI (SOc.out.alloc HF.out (.cells #[.int .i64 t.l[k].kind, .int .i64 t.l[k].n, .string ⟨t.l[k].s.toArray⟩, .slice a5 t.l[k].keys.length c5, .slice a6 t.l[k].l.length c6] 25))
              replace OEc := hidI (OEc.out.bel (bel_alloc _ (.cells #[.int .i64 t.l[k].kind, .int .i64 t.l[k].n, .string ⟨t.l[k].s.toArray⟩, .slice a5 t.l[k].keys.length c5, .slice a6 t.l[k].l.length c6] 25)))
              replace hBc := Nat.le_trans hBc (bel_alloc _ (.cells #[.int .i64 t.l[k].kind, .int .i64 t.l[k].n, .string ⟨t.l[k].s.toArray⟩, .slice a5 t.l[k].keys.length c5, .slice a6 t.l[k].l.length c6] 25)).size
              have NBV : Hid ((W9.alloc (.cells #[.int .i64 t.l[k].kind, .int .i64 t.l[k].n, .string ⟨t.l[k].s.toArray⟩, .slice a5 t.l[k].keys.length c5, .slice a6 t.l[k].l.length c6] 25)).heap[W9.heap.size]? = some (.cells #[.int .i64 t.l[k].kind, .int .i64 t.l[k].n, .string ⟨t.l[k].s.toArray⟩, .slice a5 t.l[k].keys.length c5, .slice a6 t.l[k].l.length c6] 25)) := hidI (heap_alloc_new _ _)
              refine hK.out _ _ (SOc.out) (fun hHeld2 => ?_)
              clear hK K
              replace hHeld := hHeld2
              clear hHeld2
              try simp only [Act.put, List.setIfInBounds_toArray, List.set_cons_zero, List.set_cons_succ]
              refine wpAnyT_ready (rs := [13]) (by kernel_rfl) (by simp) ?_
              refine AllReadyT.cons (i := 13) (o := { dst := some 33, op := Go.Op.call { callee := Go.Callee.builtin Go.Builtin.append, args := #[Go.Operand.tmp 26, Go.Operand.tmp 32], argTypes := #[23, 23] }, type := 23, pos := "low.go:352", after := #[{ on := 6, ground := Go.Ground.data }, { on := 12, ground := Go.Ground.data }, { on := 4, ground := Go.Ground.chain }], guard := none }) rfl (fun K hK => ?_) ?_
              · have OEd := hidI OEc.out
                have HY2 := hidI (HY.out.bel OEd.out.below)
                have NBd := hidI NBV.out
                refine step_run (by rfl) (.tmp 26) (.tmp 32) 23 (by rfl) _ _ rfl rfl _ (fun ty => OEd.out.item NBd.out HY2.out hnl (by exact hBc) ty) (fun v9 W9 hR => ?_)
                obtain ⟨ho9, hg9, gV, cV, rfl⟩ := hR
                replace SOc := hidI (hHeld.grown HF.out hg9 (fun g e => (OEd.out.lown g e).1))
                refine hK.out _ _ SOc.out (fun hHeld2 => ?_)
                replace OEc := hidI ho9
                replace hBc := Nat.le_trans (by exact hBc) hg9.size
                clear ho9 hg9 OEd NBd
                clear hK K
                replace hHeld := hHeld2
                clear hHeld2
                try simp only [Act.put, List.setIfInBounds_toArray, List.set_cons_zero, List.set_cons_succ]
                obtain ⟨o0, o1, o2, o3, o4, f0, f1, f2, f3, f4⟩ := hHeld.1.c
                have HE := hidI hHeld
                clear hHeld
                refine wpAnyT_last (i := 15) (o := { dst := none, op := Go.Op.store 22 (Go.Operand.tmp 34) (Go.Operand.tmp 24), type := 0, pos := "low.go:352", after := #[{ on := 14, ground := Go.Ground.data }, { on := 4, ground := Go.Ground.data }, { on := 13, ground := Go.Ground.chain }, { on := 0, ground := Go.Ground.phase }, { on := 1, ground := Go.Ground.phase }, { on := 2, ground := Go.Ground.phase }, { on := 3, ground := Go.Ground.phase }, { on := 4, ground := Go.Ground.phase }, { on := 5, ground := Go.Ground.phase }, { on := 6, ground := Go.Ground.phase }, { on := 7, ground := Go.Ground.textOnly Go.Departure.lateStores }, { on := 8, ground := Go.Ground.textOnly Go.Departure.lateStores }, { on := 9, ground := Go.Ground.textOnly Go.Departure.lateStores }, { on := 10, ground := Go.Ground.textOnly Go.Departure.lateStores }, { on := 11, ground := Go.Ground.textOnly Go.Departure.lateStores }, { on := 12, ground := Go.Ground.textOnly Go.Departure.lateStores }, { on := 13, ground := Go.Ground.textOnly Go.Departure.lateStoresUnsure }], guard := none }) (by kernel_rfl) (by rfl) rfl (fun K hK => ?_)
                go_simp
                refine hK.out _ _ ?_
                clear hK K
                try simp only [Act.put, List.setIfInBounds_toArray, List.set_cons_zero, List.set_cons_succ]
                refine wpAnyT_last (i := 16) (o := { dst := some 35, op := Go.Op.fieldAddr 25 (Go.Operand.tmp 5) 4, type := 0, pos := "low.go:352", after := #[{ on := 0, ground := Go.Ground.phase }, { on := 1, ground := Go.Ground.phase }, { on := 2, ground := Go.Ground.phase }, { on := 3, ground := Go.Ground.phase }, { on := 4, ground := Go.Ground.phase }, { on := 5, ground := Go.Ground.phase }, { on := 6, ground := Go.Ground.phase }, { on := 7, ground := Go.Ground.phase }, { on := 8, ground := Go.Ground.phase }, { on := 9, ground := Go.Ground.phase }, { on := 10, ground := Go.Ground.phase }, { on := 11, ground := Go.Ground.phase }, { on := 12, ground := Go.Ground.phase }, { on := 13, ground := Go.Ground.phase }, { on := 14, ground := Go.Ground.phase }, { on := 15, ground := Go.Ground.phase }], guard := none }) (by kernel_rfl) (by rfl) rfl (fun K hK => ?_)
                go_simp
                refine hK.out _ _ ?_
                clear hK K
                try simp only [Act.put, List.setIfInBounds_toArray, List.set_cons_zero, List.set_cons_succ]
                refine wpAnyT_last (i := 17) (o := { dst := none, op := Go.Op.store 23 (Go.Operand.tmp 35) (Go.Operand.tmp 33), type := 0, pos := "low.go:352", after := #[{ on := 16, ground := Go.Ground.data }, { on := 13, ground := Go.Ground.data }, { on := 15, ground := Go.Ground.chain }, { on := 0, ground := Go.Ground.phase }, { on := 1, ground := Go.Ground.phase }, { on := 2, ground := Go.Ground.phase }, { on := 3, ground := Go.Ground.phase }, { on := 4, ground := Go.Ground.phase }, { on := 5, ground := Go.Ground.phase }, { on := 6, ground := Go.Ground.phase }, { on := 7, ground := Go.Ground.phase }, { on := 8, ground := Go.Ground.phase }, { on := 9, ground := Go.Ground.phase }, { on := 10, ground := Go.Ground.phase }, { on := 11, ground := Go.Ground.phase }, { on := 12, ground := Go.Ground.phase }, { on := 13, ground := Go.Ground.phase }, { on := 14, ground := Go.Ground.phase }, { on := 15, ground := Go.Ground.phase }], guard := none }) (by kernel_rfl) (by rfl) rfl (fun K hK => ?_)
                go_simp
                refine hK.out _ _ ?_
                clear hK K
                try simp only [Act.put, List.setIfInBounds_toArray, List.set_cons_zero, List.set_cons_succ]
                refine wpAnyT_done (by kernel_rfl) ?_ _
                go_wp2_with fail
                go_roundg (t.keys.length - (k + 1))
                case measure => rw [GK.out]; omega
                case rel => exact ⟨k + 1, hlt, rfl, by go_num, wo_more HL.out hlt hlt' HNE.out HPS.out HE.out (by have h9 := OEc.out; simp only [List.length_map] at h9; exact h9)⟩
              exact AllReadyT.nil
            exact AllReadyT.nil
          refine AllReadyT.cons (i := 12) (o := { dst := some 32, op := Go.Op.buildSlice 23 1 #[(0, Go.Operand.tmp 31)], type := 23, pos := "low.go:352", after := #[{ on := 11, ground := Go.Ground.data }], guard := none }) rfl (fun K hK => ?_) ?_
          · go_simp
            replace SOc := hidI (SOc.out.alloc HF.out (.cells #[.int .i64 t.l[k].kind, .int .i64 t.l[k].n, .string ⟨t.l[k].s.toArray⟩, .slice a5 t.l[k].keys.length c5, .slice a6 t.l[k].l.length c6] 25))
            replace OEc := hidI (OEc.out.bel (bel_alloc _ (.cells #[.int .i64 t.l[k].kind, .int .i64 t.l[k].n, .string ⟨t.l[k].s.toArray⟩, .slice a5 t.l[k].keys.length c5, .slice a6 t.l[k].l.length c6] 25)))
            replace hBc := Nat.le_trans hBc (bel_alloc _ (.cells #[.int .i64 t.l[k].kind, .int .i64 t.l[k].n, .string ⟨t.l[k].s.toArray⟩, .slice a5 t.l[k].keys.length c5, .slice a6 t.l[k].l.length c6] 25)).size
            clear NBK
            have NBK : Hid (((wr.alloc (.cells #[.string ⟨t.keys[k].toArray⟩] 9)).alloc (.cells #[.int .i64 t.l[k].kind, .int .i64 t.l[k].n, .string ⟨t.l[k].s.toArray⟩, .slice a5 t.l[k].keys.length c5, .slice a6 t.l[k].l.length c6] 25)).heap[wr.heap.size]? = some (.cells #[.string ⟨t.keys[k].toArray⟩] 9)) := hidI (h2a _ _ _)
            have NBV : Hid (((wr.alloc (.cells #[.string ⟨t.keys[k].toArray⟩] 9)).alloc (.cells #[.int .i64 t.l[k].kind, .int .i64 t.l[k].n, .string ⟨t.l[k].s.toArray⟩, .slice a5 t.l[k].keys.length c5, .slice a6 t.l[k].l.length c6] 25)).heap[wr.heap.size + 1]? = some (.cells #[.int .i64 t.l[k].kind, .int .i64 t.l[k].n, .string ⟨t.l[k].s.toArray⟩, .slice a5 t.l[k].keys.length c5, .slice a6 t.l[k].l.length c6] 25)) := hidI (h2b _ _ _)
            refine hK.out _ _ (SOc.out.drew HF.out) (fun hHeld2 => ?_)
            clear hK K
            replace hHeld := hHeld2
            clear hHeld2
            try simp only [Act.put, List.setIfInBounds_toArray, List.set_cons_zero, List.set_cons_succ]
            refine wpAnyT_ready (rs := [4]) (by kernel_rfl) (by simp) ?_
            refine AllReadyT.cons (i := 4) (o := { dst := some 24, op := Go.Op.call { callee := Go.Callee.builtin Go.Builtin.append, args := #[Go.Operand.tmp 21, Go.Operand.tmp 23], argTypes := #[22, 22] }, type := 22, pos := "low.go:352", after := #[{ on := 1, ground := Go.Ground.data }, { on := 3, ground := Go.Ground.data }], guard := none }) rfl (fun K hK => ?_) ?_
            · have OEd := hidI OEc.out.drew
              have NBd : Hid ((((wr.alloc (.cells #[.string ⟨t.keys[k].toArray⟩] 9)).alloc (.cells #[.int .i64 t.l[k].kind, .int .i64 t.l[k].n, .string ⟨t.l[k].s.toArray⟩, .slice a5 t.l[k].keys.length c5, .slice a6 t.l[k].l.length c6] 25)).drew).heap[wr.heap.size]? = some (.cells #[.string ⟨t.keys[k].toArray⟩] 9)) := hidI NBK.out
              refine step_run (by rfl) (.tmp 21) (.tmp 23) 22 (by rfl) _ _ rfl rfl _ (fun ty => OEd.out.key NBd.out hnk (by exact hBc) ty) (fun v9 W9 hR => ?_)
              obtain ⟨ho9, hg9, gK, cK, rfl⟩ := hR
              replace SOc := hidI (hHeld.grown HF.out hg9 (fun g e => (OEd.out.kown g e).1))
              refine hK.out _ _ SOc.out (fun hHeld2 => ?_)
              replace NBV := hidI (nb_grown ((by exact NBV.out : (((wr.alloc (.cells #[.string ⟨t.keys[k].toArray⟩] 9)).alloc (.cells #[.int .i64 t.l[k].kind, .int .i64 t.l[k].n, .string ⟨t.l[k].s.toArray⟩, .slice a5 t.l[k].keys.length c5, .slice a6 t.l[k].l.length c6] 25)).drew).heap[wr.heap.size + 1]? = some (.cells #[.int .i64 t.l[k].kind, .int .i64 t.l[k].n, .string ⟨t.l[k].s.toArray⟩, .slice a5 t.l[k].keys.length c5, .slice a6 t.l[k].l.length c6] 25))) hg9 (fun e => by have := LK.out _ e.symm; omega))
              replace OEc := hidI ho9
              replace hBc := Nat.le_trans (by exact hBc) hg9.size
              clear ho9 hg9 OEd NBd
              clear hK K
              replace hHeld := hHeld2
              clear hHeld2
              try simp only [Act.put, List.setIfInBounds_toArray, List.set_cons_zero, List.set_cons_succ]
              refine wpAnyT_take (i := 14) (v := ?_) [15, 16, 17] (oi := { dst := some 34, op := Go.Op.fieldAddr 25 (Go.Operand.tmp 5) 3, type := 0, pos := "low.go:352", after := #[{ on := 0, ground := Go.Ground.phase }, { on := 1, ground := Go.Ground.phase }, { on := 2, ground := Go.Ground.phase }, { on := 3, ground := Go.Ground.phase }, { on := 4, ground := Go.Ground.phase }, { on := 5, ground := Go.Ground.phase }, { on := 6, ground := Go.Ground.phase }, { on := 7, ground := Go.Ground.textOnly Go.Departure.lateStores }, { on := 8, ground := Go.Ground.textOnly Go.Departure.lateStores }, { on := 9, ground := Go.Ground.textOnly Go.Departure.lateStores }, { on := 10, ground := Go.Ground.textOnly Go.Departure.lateStores }, { on := 11, ground := Go.Ground.textOnly Go.Departure.lateStores }, { on := 12, ground := Go.Ground.textOnly Go.Departure.lateStores }, { on := 13, ground := Go.Ground.textOnly Go.Departure.lateStoresUnsure }], guard := none }) rfl (by kernel_rfl) (by kernel_rfl) (by kernel_rfl) (by kernel_rfl) (fun _ _ _ h => h) (Or.inl ⟨by rfl, ?_⟩) hHeld ?_
              rotate_left
              · intro wS hSw
                go_simp
                all_goals with_reducible rfl
              simp only [Act.put, List.setIfInBounds_toArray, List.set_cons_zero, List.set_cons_succ]
              refine wpAnyT_ready (rs := [13]) (by kernel_rfl) (by simp) ?_
              refine AllReadyT.cons (i := 13) (o := { dst := some 33, op := Go.Op.call { callee := Go.Callee.builtin Go.Builtin.append, args := #[Go.Operand.tmp 26, Go.Operand.tmp 32], argTypes := #[23, 23] }, type := 23, pos := "low.go:352", after := #[{ on := 6, ground := Go.Ground.data }, { on := 12, ground := Go.Ground.data }, { on := 4, ground := Go.Ground.chain }], guard := none }) rfl (fun K hK => ?_) ?_
              · have OEd := hidI OEc.out
                have HY2 := hidI (HY.out.bel OEd.out.below)
                have NBd := hidI NBV.out
                refine step_run (by rfl) (.tmp 26) (.tmp 32) 23 (by rfl) _ _ rfl rfl _ (fun ty => OEd.out.item NBd.out HY2.out hnl (by exact hBc) ty) (fun v9 W9 hR => ?_)
                obtain ⟨ho9, hg9, gV, cV, rfl⟩ := hR
                replace SOc := hidI (hHeld.grown HF.out hg9 (fun g e => (OEd.out.lown g e).1))
                refine hK.out _ _ SOc.out (fun hHeld2 => ?_)
                replace OEc := hidI ho9
                replace hBc := Nat.le_trans (by exact hBc) hg9.size
                clear ho9 hg9 OEd NBd
                clear hK K
                replace hHeld := hHeld2
                clear hHeld2
                try simp only [Act.put, List.setIfInBounds_toArray, List.set_cons_zero, List.set_cons_succ]
                obtain ⟨o0, o1, o2, o3, o4, f0, f1, f2, f3, f4⟩ := hHeld.1.c
                have HE := hidI hHeld
                clear hHeld
                refine wpAnyT_last (i := 15) (o := { dst := none, op := Go.Op.store 22 (Go.Operand.tmp 34) (Go.Operand.tmp 24), type := 0, pos := "low.go:352", after := #[{ on := 14, ground := Go.Ground.data }, { on := 4, ground := Go.Ground.data }, { on := 13, ground := Go.Ground.chain }, { on := 0, ground := Go.Ground.phase }, { on := 1, ground := Go.Ground.phase }, { on := 2, ground := Go.Ground.phase }, { on := 3, ground := Go.Ground.phase }, { on := 4, ground := Go.Ground.phase }, { on := 5, ground := Go.Ground.phase }, { on := 6, ground := Go.Ground.phase }, { on := 7, ground := Go.Ground.textOnly Go.Departure.lateStores }, { on := 8, ground := Go.Ground.textOnly Go.Departure.lateStores }, { on := 9, ground := Go.Ground.textOnly Go.Departure.lateStores }, { on := 10, ground := Go.Ground.textOnly Go.Departure.lateStores }, { on := 11, ground := Go.Ground.textOnly Go.Departure.lateStores }, { on := 12, ground := Go.Ground.textOnly Go.Departure.lateStores }, { on := 13, ground := Go.Ground.textOnly Go.Departure.lateStoresUnsure }], guard := none }) (by kernel_rfl) (by rfl) rfl (fun K hK => ?_)
                go_simp
                refine hK.out _ _ ?_
                clear hK K
                try simp only [Act.put, List.setIfInBounds_toArray, List.set_cons_zero, List.set_cons_succ]
                refine wpAnyT_last (i := 16) (o := { dst := some 35, op := Go.Op.fieldAddr 25 (Go.Operand.tmp 5) 4, type := 0, pos := "low.go:352", after := #[{ on := 0, ground := Go.Ground.phase }, { on := 1, ground := Go.Ground.phase }, { on := 2, ground := Go.Ground.phase }, { on := 3, ground := Go.Ground.phase }, { on := 4, ground := Go.Ground.phase }, { on := 5, ground := Go.Ground.phase }, { on := 6, ground := Go.Ground.phase }, { on := 7, ground := Go.Ground.phase }, { on := 8, ground := Go.Ground.phase }, { on := 9, ground := Go.Ground.phase }, { on := 10, ground := Go.Ground.phase }, { on := 11, ground := Go.Ground.phase }, { on := 12, ground := Go.Ground.phase }, { on := 13, ground := Go.Ground.phase }, { on := 14, ground := Go.Ground.phase }, { on := 15, ground := Go.Ground.phase }], guard := none }) (by kernel_rfl) (by rfl) rfl (fun K hK => ?_)
                go_simp
                refine hK.out _ _ ?_
                clear hK K
                try simp only [Act.put, List.setIfInBounds_toArray, List.set_cons_zero, List.set_cons_succ]
                refine wpAnyT_last (i := 17) (o := { dst := none, op := Go.Op.store 23 (Go.Operand.tmp 35) (Go.Operand.tmp 33), type := 0, pos := "low.go:352", after := #[{ on := 16, ground := Go.Ground.data }, { on := 13, ground := Go.Ground.data }, { on := 15, ground := Go.Ground.chain }, { on := 0, ground := Go.Ground.phase }, { on := 1, ground := Go.Ground.phase }, { on := 2, ground := Go.Ground.phase }, { on := 3, ground := Go.Ground.phase }, { on := 4, ground := Go.Ground.phase }, { on := 5, ground := Go.Ground.phase }, { on := 6, ground := Go.Ground.phase }, { on := 7, ground := Go.Ground.phase }, { on := 8, ground := Go.Ground.phase }, { on := 9, ground := Go.Ground.phase }, { on := 10, ground := Go.Ground.phase }, { on := 11, ground := Go.Ground.phase }, { on := 12, ground := Go.Ground.phase }, { on := 13, ground := Go.Ground.phase }, { on := 14, ground := Go.Ground.phase }, { on := 15, ground := Go.Ground.phase }], guard := none }) (by kernel_rfl) (by rfl) rfl (fun K hK => ?_)
                go_simp
                refine hK.out _ _ ?_
                clear hK K
                try simp only [Act.put, List.setIfInBounds_toArray, List.set_cons_zero, List.set_cons_succ]
                refine wpAnyT_done (by kernel_rfl) ?_ _
                go_wp2_with fail
                go_roundg (t.keys.length - (k + 1))
                case measure => rw [GK.out]; omega
                case rel => exact ⟨k + 1, hlt, rfl, by go_num, wo_more HL.out hlt hlt' HNE.out HPS.out HE.out (by have h9 := OEc.out; simp only [List.length_map] at h9; exact h9)⟩
              exact AllReadyT.nil
            exact AllReadyT.nil
          exact AllReadyT.nil
        refine AllReadyT.cons (i := 12) (o := { dst := some 32, op := Go.Op.buildSlice 23 1 #[(0, Go.Operand.tmp 31)], type := 23, pos := "low.go:352", after := #[{ on := 11, ground := Go.Ground.data }], guard := none }) rfl (fun K hK => ?_) ?_
        · go_simp
          replace SOc := hidI (SOc.out.alloc HF.out (.cells #[.int .i64 t.l[k].kind, .int .i64 t.l[k].n, .string ⟨t.l[k].s.toArray⟩, .slice a5 t.l[k].keys.length c5, .slice a6 t.l[k].l.length c6] 25))
          replace OEc := hidI (OEc.out.bel (bel_alloc _ (.cells #[.int .i64 t.l[k].kind, .int .i64 t.l[k].n, .string ⟨t.l[k].s.toArray⟩, .slice a5 t.l[k].keys.length c5, .slice a6 t.l[k].l.length c6] 25)))
          replace hBc := Nat.le_trans hBc (bel_alloc _ (.cells #[.int .i64 t.l[k].kind, .int .i64 t.l[k].n, .string ⟨t.l[k].s.toArray⟩, .slice a5 t.l[k].keys.length c5, .slice a6 t.l[k].l.length c6] 25)).size
          have NBV : Hid ((wr.alloc (.cells #[.int .i64 t.l[k].kind, .int .i64 t.l[k].n, .string ⟨t.l[k].s.toArray⟩, .slice a5 t.l[k].keys.length c5, .slice a6 t.l[k].l.length c6] 25)).heap[wr.heap.size]? = some (.cells #[.int .i64 t.l[k].kind, .int .i64 t.l[k].n, .string ⟨t.l[k].s.toArray⟩, .slice a5 t.l[k].keys.length c5, .slice a6 t.l[k].l.length c6] 25)) := hidI (heap_alloc_new _ _)
          refine hK.out _ _ (SOc.out.drew HF.out) (fun hHeld2 => ?_)
          clear hK K
          replace hHeld := hHeld2
          clear hHeld2
          try simp only [Act.put, List.setIfInBounds_toArray, List.set_cons_zero, List.set_cons_succ]
          refine wpAnyT_ready (rs := [3]) (by kernel_rfl) (by simp) ?_
          refine AllReadyT.cons (i := 3) (o := { dst := some 23, op := Go.Op.buildSlice 22 1 #[(0, Go.Operand.tmp 22)], type := 22, pos := "low.go:352", after := #[{ on := 2, ground := Go.Ground.data }], guard := none }) rfl (fun K hK => ?_) ?_
          · go_simp
            replace SOc := hidI (SOc.out.alloc HF.out (.cells #[.string ⟨t.keys[k].toArray⟩] 9))
            replace OEc := hidI (OEc.out.bel (bel_alloc _ (.cells #[.string ⟨t.keys[k].toArray⟩] 9)))
            replace hBc := Nat.le_trans hBc (bel_alloc _ (.cells #[.string ⟨t.keys[k].toArray⟩] 9)).size
            clear NBV
            have NBV : Hid (((wr.alloc (.cells #[.int .i64 t.l[k].kind, .int .i64 t.l[k].n, .string ⟨t.l[k].s.toArray⟩, .slice a5 t.l[k].keys.length c5, .slice a6 t.l[k].l.length c6] 25)).alloc (.cells #[.string ⟨t.keys[k].toArray⟩] 9)).heap[wr.heap.size]? = some (.cells #[.int .i64 t.l[k].kind, .int .i64 t.l[k].n, .string ⟨t.l[k].s.toArray⟩, .slice a5 t.l[k].keys.length c5, .slice a6 t.l[k].l.length c6] 25)) := hidI (h2a _ _ _)
            have NBK : Hid (((wr.alloc (.cells #[.int .i64 t.l[k].kind, .int .i64 t.l[k].n, .string ⟨t.l[k].s.toArray⟩, .slice a5 t.l[k].keys.length c5, .slice a6 t.l[k].l.length c6] 25)).alloc (.cells #[.string ⟨t.keys[k].toArray⟩] 9)).heap[wr.heap.size + 1]? = some (.cells #[.string ⟨t.keys[k].toArray⟩] 9)) := hidI (h2b _ _ _)
            refine hK.out _ _ (SOc.out.drew HF.out) (fun hHeld2 => ?_)
            clear hK K
            replace hHeld := hHeld2
            clear hHeld2
            try simp only [Act.put, List.setIfInBounds_toArray, List.set_cons_zero, List.set_cons_succ]
            refine wpAnyT_ready (rs := [4]) (by kernel_rfl) (by simp) ?_
            refine AllReadyT.cons (i := 4) (o := { dst := some 24, op := Go.Op.call { callee := Go.Callee.builtin Go.Builtin.append, args := #[Go.Operand.tmp 21, Go.Operand.tmp 23], argTypes := #[22, 22] }, type := 22, pos := "low.go:352", after := #[{ on := 1, ground := Go.Ground.data }, { on := 3, ground := Go.Ground.data }], guard := none }) rfl (fun K hK => ?_) ?_
            · have OEd := hidI OEc.out.drew
              have NBd : Hid ((((wr.alloc (.cells #[.int .i64 t.l[k].kind, .int .i64 t.l[k].n, .string ⟨t.l[k].s.toArray⟩, .slice a5 t.l[k].keys.length c5, .slice a6 t.l[k].l.length c6] 25)).alloc (.cells #[.string ⟨t.keys[k].toArray⟩] 9)).drew).heap[wr.heap.size + 1]? = some (.cells #[.string ⟨t.keys[k].toArray⟩] 9)) := hidI NBK.out
              refine step_run (by rfl) (.tmp 21) (.tmp 23) 22 (by rfl) _ _ rfl rfl _ (fun ty => OEd.out.key NBd.out hnk (by exact hBc) ty) (fun v9 W9 hR => ?_)
              obtain ⟨ho9, hg9, gK, cK, rfl⟩ := hR
              replace SOc := hidI (hHeld.grown HF.out hg9 (fun g e => (OEd.out.kown g e).1))
              refine hK.out _ _ SOc.out (fun hHeld2 => ?_)
              replace NBV := hidI (nb_grown ((by exact NBV.out : (((wr.alloc (.cells #[.int .i64 t.l[k].kind, .int .i64 t.l[k].n, .string ⟨t.l[k].s.toArray⟩, .slice a5 t.l[k].keys.length c5, .slice a6 t.l[k].l.length c6] 25)).alloc (.cells #[.string ⟨t.keys[k].toArray⟩] 9)).drew).heap[wr.heap.size]? = some (.cells #[.int .i64 t.l[k].kind, .int .i64 t.l[k].n, .string ⟨t.l[k].s.toArray⟩, .slice a5 t.l[k].keys.length c5, .slice a6 t.l[k].l.length c6] 25))) hg9 (fun e => by have := LK.out _ e.symm; omega))
              replace OEc := hidI ho9
              replace hBc := Nat.le_trans (by exact hBc) hg9.size
              clear ho9 hg9 OEd NBd
              clear hK K
              replace hHeld := hHeld2
              clear hHeld2
              try simp only [Act.put, List.setIfInBounds_toArray, List.set_cons_zero, List.set_cons_succ]
              refine wpAnyT_take (i := 14) (v := ?_) [15, 16, 17] (oi := { dst := some 34, op := Go.Op.fieldAddr 25 (Go.Operand.tmp 5) 3, type := 0, pos := "low.go:352", after := #[{ on := 0, ground := Go.Ground.phase }, { on := 1, ground := Go.Ground.phase }, { on := 2, ground := Go.Ground.phase }, { on := 3, ground := Go.Ground.phase }, { on := 4, ground := Go.Ground.phase }, { on := 5, ground := Go.Ground.phase }, { on := 6, ground := Go.Ground.phase }, { on := 7, ground := Go.Ground.textOnly Go.Departure.lateStores }, { on := 8, ground := Go.Ground.textOnly Go.Departure.lateStores }, { on := 9, ground := Go.Ground.textOnly Go.Departure.lateStores }, { on := 10, ground := Go.Ground.textOnly Go.Departure.lateStores }, { on := 11, ground := Go.Ground.textOnly Go.Departure.lateStores }, { on := 12, ground := Go.Ground.textOnly Go.Departure.lateStores }, { on := 13, ground := Go.Ground.textOnly Go.Departure.lateStoresUnsure }], guard := none }) rfl (by kernel_rfl) (by kernel_rfl) (by kernel_rfl) (by kernel_rfl) (fun _ _ _ h => h) (Or.inl ⟨by rfl, ?_⟩) hHeld ?_
              rotate_left
              · intro wS hSw
                go_simp
                all_goals with_reducible rfl
              simp only [Act.put, List.setIfInBounds_toArray, List.set_cons_zero, List.set_cons_succ]
              refine wpAnyT_ready (rs := [13]) (by kernel_rfl) (by simp) ?_
              refine AllReadyT.cons (i := 13) (o := { dst := some 33, op := Go.Op.call { callee := Go.Callee.builtin Go.Builtin.append, args := #[Go.Operand.tmp 26, Go.Operand.tmp 32], argTypes := #[23, 23] }, type := 23, pos := "low.go:352", after := #[{ on := 6, ground := Go.Ground.data }, { on := 12, ground := Go.Ground.data }, { on := 4, ground := Go.Ground.chain }], guard := none }) rfl (fun K hK => ?_) ?_
              · have OEd := hidI OEc.out
                have HY2 := hidI (HY.out.bel OEd.out.below)
                have NBd := hidI NBV.out
                refine step_run (by rfl) (.tmp 26) (.tmp 32) 23 (by rfl) _ _ rfl rfl _ (fun ty => OEd.out.item NBd.out HY2.out hnl (by exact hBc) ty) (fun v9 W9 hR => ?_)
                obtain ⟨ho9, hg9, gV, cV, rfl⟩ := hR
                replace SOc := hidI (hHeld.grown HF.out hg9 (fun g e => (OEd.out.lown g e).1))
                refine hK.out _ _ SOc.out (fun hHeld2 => ?_)
                replace OEc := hidI ho9
                replace hBc := Nat.le_trans (by exact hBc) hg9.size
                clear ho9 hg9 OEd NBd
                clear hK K
                replace hHeld := hHeld2
                clear hHeld2
                try simp only [Act.put, List.setIfInBounds_toArray, List.set_cons_zero, List.set_cons_succ]
                obtain ⟨o0, o1, o2, o3, o4, f0, f1, f2, f3, f4⟩ := hHeld.1.c
                have HE := hidI hHeld
                clear hHeld
                refine wpAnyT_last (i := 15) (o := { dst := none, op := Go.Op.store 22 (Go.Operand.tmp 34) (Go.Operand.tmp 24), type := 0, pos := "low.go:352", after := #[{ on := 14, ground := Go.Ground.data }, { on := 4, ground := Go.Ground.data }, { on := 13, ground := Go.Ground.chain }, { on := 0, ground := Go.Ground.phase }, { on := 1, ground := Go.Ground.phase }, { on := 2, ground := Go.Ground.phase }, { on := 3, ground := Go.Ground.phase }, { on := 4, ground := Go.Ground.phase }, { on := 5, ground := Go.Ground.phase }, { on := 6, ground := Go.Ground.phase }, { on := 7, ground := Go.Ground.textOnly Go.Departure.lateStores }, { on := 8, ground := Go.Ground.textOnly Go.Departure.lateStores }, { on := 9, ground := Go.Ground.textOnly Go.Departure.lateStores }, { on := 10, ground := Go.Ground.textOnly Go.Departure.lateStores }, { on := 11, ground := Go.Ground.textOnly Go.Departure.lateStores }, { on := 12, ground := Go.Ground.textOnly Go.Departure.lateStores }, { on := 13, ground := Go.Ground.textOnly Go.Departure.lateStoresUnsure }], guard := none }) (by kernel_rfl) (by rfl) rfl (fun K hK => ?_)
                go_simp
                refine hK.out _ _ ?_
                clear hK K
                try simp only [Act.put, List.setIfInBounds_toArray, List.set_cons_zero, List.set_cons_succ]
                refine wpAnyT_last (i := 16) (o := { dst := some 35, op := Go.Op.fieldAddr 25 (Go.Operand.tmp 5) 4, type := 0, pos := "low.go:352", after := #[{ on := 0, ground := Go.Ground.phase }, { on := 1, ground := Go.Ground.phase }, { on := 2, ground := Go.Ground.phase }, { on := 3, ground := Go.Ground.phase }, { on := 4, ground := Go.Ground.phase }, { on := 5, ground := Go.Ground.phase }, { on := 6, ground := Go.Ground.phase }, { on := 7, ground := Go.Ground.phase }, { on := 8, ground := Go.Ground.phase }, { on := 9, ground := Go.Ground.phase }, { on := 10, ground := Go.Ground.phase }, { on := 11, ground := Go.Ground.phase }, { on := 12, ground := Go.Ground.phase }, { on := 13, ground := Go.Ground.phase }, { on := 14, ground := Go.Ground.phase }, { on := 15, ground := Go.Ground.phase }], guard := none }) (by kernel_rfl) (by rfl) rfl (fun K hK => ?_)
                go_simp
                refine hK.out _ _ ?_
                clear hK K
                try simp only [Act.put, List.setIfInBounds_toArray, List.set_cons_zero, List.set_cons_succ]
                refine wpAnyT_last (i := 17) (o := { dst := none, op := Go.Op.store 23 (Go.Operand.tmp 35) (Go.Operand.tmp 33), type := 0, pos := "low.go:352", after := #[{ on := 16, ground := Go.Ground.data }, { on := 13, ground := Go.Ground.data }, { on := 15, ground := Go.Ground.chain }, { on := 0, ground := Go.Ground.phase }, { on := 1, ground := Go.Ground.phase }, { on := 2, ground := Go.Ground.phase }, { on := 3, ground := Go.Ground.phase }, { on := 4, ground := Go.Ground.phase }, { on := 5, ground := Go.Ground.phase }, { on := 6, ground := Go.Ground.phase }, { on := 7, ground := Go.Ground.phase }, { on := 8, ground := Go.Ground.phase }, { on := 9, ground := Go.Ground.phase }, { on := 10, ground := Go.Ground.phase }, { on := 11, ground := Go.Ground.phase }, { on := 12, ground := Go.Ground.phase }, { on := 13, ground := Go.Ground.phase }, { on := 14, ground := Go.Ground.phase }, { on := 15, ground := Go.Ground.phase }], guard := none }) (by kernel_rfl) (by rfl) rfl (fun K hK => ?_)
                go_simp
                refine hK.out _ _ ?_
                clear hK K
                try simp only [Act.put, List.setIfInBounds_toArray, List.set_cons_zero, List.set_cons_succ]
                refine wpAnyT_done (by kernel_rfl) ?_ _
                go_wp2_with fail
                go_roundg (t.keys.length - (k + 1))
                case measure => rw [GK.out]; omega
                case rel => exact ⟨k + 1, hlt, rfl, by go_num, wo_more HL.out hlt hlt' HNE.out HPS.out HE.out (by have h9 := OEc.out; simp only [List.length_map] at h9; exact h9)⟩
              exact AllReadyT.nil
            exact AllReadyT.nil
          exact AllReadyT.nil
        exact AllReadyT.nil
    · have hke : k = t.keys.length := by omega
      subst hke
      have d1 : ¬ (t.keys.length : Int) < (t.keys.length : Int) := by omega
      obtain ⟨ps, kv, lv, i1, i2, i3, i4⟩ := II.out
      have i5 : ps = woF key (t.keys.zip t.l) := by
        rw [← i3, List.drop_eq_nil_of_le (by simp; omega)]; simp [woF]
      have hpl : ps.length ≤ 100000 := by
        have h1 : (woF key (t.keys.zip t.l)).length ≤ (t.keys.zip t.l).length := List.length_filter_le _ _
        rw [i5]; simp at h1; omega
      have hmk : ∀ x ∈ ps.map Prod.fst, x.length ≤ maxLen := by
        intro x hx
        rw [List.mem_map] at hx
        obtain ⟨p, hp, rfl⟩ := hx
        rw [i5] at hp
        have := (List.of_mem_zip (List.mem_filter.1 hp).1).1
        exact VV.out.2.mem _ this
      have M := hidI (i2.made hmk (by rw [List.length_map]; omega) (by rw [List.length_map]; omega))
      have E : Hid ((⟨5, 0, [], ps.map Prod.fst, ps.map Prod.snd⟩ : V) = withoutV t key) := hidI (by rw [i5]; exact wo_without OB.out key)
      have gs := set5_gb wr (w.heap.size + 1) (.int .i64 5) (.int .i64 0) (.string ⟨#[]⟩) kv lv
      have ZB : Hid _ := hidI (i1.2.1.2.set (.int .i64 5) (.int .i64 0) (.string ⟨#[]⟩) kv lv)
      have Z : Hid (VIs (set5 wr (w.heap.size + 1) (.int .i64 5) (.int .i64 0) (.string ⟨#[]⟩) kv lv) (okN ok w.heap.size) (d + 1) (withoutV t key) (.agg #[.int .i64 5, .int .i64 0, .string ⟨#[]⟩, kv, lv]) ∧ Below w.heap.size w (set5 wr (w.heap.size + 1) (.int .i64 5) (.int .i64 0) (.string ⟨#[]⟩) kv lv)) := hidI (by
        have hs : OE w ok (w.heap.size + 2 + 1) d (ps.map Prod.fst) (ps.map Prod.snd) kv lv (set5 wr (w.heap.size + 1) (.int .i64 5) (.int .i64 0) (.string ⟨#[]⟩) kv lv) := ((((i2.set (by omega) (by omega) _ _).set (by omega) (by omega) _ _).set (by omega) (by omega) _ _).set (by omega) (by omega) _ _).set (by omega) (by omega) _ _
        refine ⟨?_, hs.below⟩
        rw [← E.out]
        exact hs.made hmk (by rw [List.length_map]; omega) (by rw [List.length_map]; omega))
      obtain ⟨n1, n2, n3, n4, hk1, hk2⟩ := i2.forms
      rw [List.length_map] at hk1 hk2
      subst hk1
      subst hk2
      obtain ⟨o0, o1, o2, o3, o4, -⟩ := i1.1.c
      obtain ⟨z0, z1, z2, z3, z4, z5, z6, z7, z8, z9⟩ := i1.2.1.2.c
      clear gs i1 i2 i3 i4 i5 hpl hmk
      go_wp2_with fail
      obtain ⟨q0, q1, q2, q3, q4, -⟩ := ZB.out.c
      refine bodyPost_ret (v := .agg #[.int .i64 5, .int .i64 0, .string ⟨#[]⟩, .slice n1 ps.length n2, .slice n3 ps.length n4]) ?_ rfl ?_
      · simp only [set5] at q0 q1 q2 q3 q4
        simp [results, Tryd.results20, go_sem, q0, q1, q2, q3, q4]
      · exact ⟨_, rfl, Z.out.1, Z.out.2⟩
theorem rwithout_is (w : World) (ok : Nat → Prop) (t : V) (v : Value) (key : List UInt8) (h : In w ok t v) (ho : Ob t) (hl : t.l.length ≤ 100000) :
    Calls Tryd.prog 20 #[v, str key] w fun e w' => ∃ r, e = .returned r ∧ In w' (okN ok w.heap.size) (withoutV t key) r ∧ Below w.heap.size w w' := by
  obtain ⟨d, h⟩ := h.at
  refine (rwithout_at w ok d t v key h ho hl).mono ?_
  rintro e w' ⟨r, rfl, hr, hb⟩
  exact ⟨r, rfl, hr.is, hb⟩
end Go.Proofs.YtfbddgpekbhpfaaDoor
