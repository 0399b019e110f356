/- What alter of package stairwellref does: a list that grows. -/
import Derived.Test.YtaifciobaapehaaDoorGFw
import Derived.Test.YtaifciobaapehaaDoorGWq
import Derived.Deep.DrawnRows
import Derived.Test.YtaifciobaapehaaDoorGFg
import Derived.Lib.AppendZeros
/- What WithoutMember of package stairwellref does. -/
set_option linter.unusedSimpArgs false
set_option linter.unusedVariables false
namespace Go.Proofs.YtaifciobaapehaaDoor
open Go.RowKit

/- Of the first k members those that stay are made. -/
def FO (w : World) (t : V) (a1 a2 : Option Addr) (c1 c2 : Nat) (W : World) : Prop := BoxIs W w.heap.size (.int .i64 t.kind) (.int .i64 t.n) (.string ⟨t.s.toArray⟩) (.slice a1 t.keys.length c1) (.slice a2 t.l.length c2) ∧ BoxIs W (w.heap.size + 1) (.int .i64 0) (.int .i64 0) (.string ⟨#[]⟩) (.slice none 0 0) (.slice none 0 0)
theorem FO.stays (w : World) (t : V) (a1 a2 : Option Addr) (c1 c2 : Nat) : Stays (w.heap.size + 2 + 1) (FO w t a1 a2 c1 c2) := fun W W' r h1 h2 h3 =>
  ⟨bx_stays (B := w.heap.size + 2 + 1) (by omega) W W' r h1.1 h2 h3, bx_stays (B := w.heap.size + 2 + 1) (by omega) W W' r h1.2 h2 h3⟩
def WoI (w : World) (ok : Nat → Prop) (d : Nat) (t : V) (key : List UInt8) (a1 a2 : Option Addr) (c1 c2 k : Nat) (wr : World) : Prop :=
  ∃ ps kv lv, SO w 2 (FO w t a1 a2 c1 c2) kv lv wr ∧ OE w ok (w.heap.size + 2 + 1) d (ps.map Prod.fst) (ps.map Prod.snd) kv lv wr ∧ ps ++ woF key ((t.keys.zip t.l).drop k) = woF key (t.keys.zip t.l) ∧ w.heap.size + 2 + 1 ≤ wr.heap.size
theorem wo_more {w W : World} {ok : Nat → Prop} {d : Nat} {t : V} {key : List UInt8} {a1 a2 : Option Addr} {c1 c2 k : Nat} {ps : List (List UInt8 × V)} {kv lv kv' lv' : Value} (hl : t.keys.length = t.l.length) (h1 : k < t.keys.length) (h2 : k < t.l.length) (hne : t.keys[k] ≠ key)
    (hps : ps ++ woF key ((t.keys.zip t.l).drop k) = woF key (t.keys.zip t.l)) (hs : SO w 2 (FO w t a1 a2 c1 c2) kv lv W) (ho : OE w ok (w.heap.size + 2 + 1) d (ps.map Prod.fst ++ [t.keys[k]]) (ps.map Prod.snd ++ [t.l[k]]) kv' lv' W) :
    WoI w ok d t key a1 a2 c1 c2 (k + 1) ((W.setCell ⟨w.heap.size + 2, 3, none⟩ kv').setCell ⟨w.heap.size + 2, 4, none⟩ lv') := by
  refine ⟨ps ++ [(t.keys[k], t.l[k])], kv', lv', hs.stored (fun W i x h => ⟨bx_set h.1 (by omega) i x, bx_set h.2 (by omega) i x⟩), ?_, ?_, ?_⟩
  · rw [List.map_append, List.map_append]
    exact (ho.set (by omega) (by omega) _ _).set (by omega) (by omega) _ _
  · rw [← hps, zip_drop h1 h2]
    simp [woF, List.filter_cons, hne]
  · have := hs.1.lt
    have e : ((W.setCell ⟨w.heap.size + 2, 3, none⟩ kv').setCell ⟨w.heap.size + 2, 4, none⟩ lv').heap.size = W.heap.size := by simp [World.setCell]
    omega
theorem wo_less {w wr : World} {ok : Nat → Prop} {d : Nat} {t : V} {key : List UInt8} {a1 a2 : Option Addr} {c1 c2 k : Nat} (hl : t.keys.length = t.l.length) (h1 : k < t.keys.length) (he : t.keys[k] = key) (h : WoI w ok d t key a1 a2 c1 c2 k wr) : WoI w ok d t key a1 a2 c1 c2 (k + 1) wr := by
  obtain ⟨ps, kv, lv, i1, i2, i3, i4⟩ := h
  refine ⟨ps, kv, lv, i1, i2, ?_, i4⟩
  rw [← i3, zip_drop h1 (by omega)]
  simp [woF, List.filter_cons, he]

attribute [local go_sem ↓] Go.wp_at_zero Go.wp_at_succ
set_option maxRecDepth 100000 in
set_option maxHeartbeats 4000000 in
theorem rwithout_at (w : World) (ok : Nat → Prop) (d : Nat) (t : V) (v : Value) (key : List UInt8) (h : VIs w ok (d + 1) t v) (ho : Ob t) (hl : t.l.length ≤ 100000) :
    Calls Tryd.prog 55 #[v, str key] w fun e w' => ∃ r, e = .returned r ∧ VIs w' (okN ok w.heap.size) (d + 1) (withoutV t key) r ∧ Below w.heap.size w w' := by
  obtain ⟨a1, a2, c1, c2, rfl⟩ := h.shape
  have OB := hidI ho
  have HL := hidI ho.2.2.2.1
  have VV : Hid (ValsAre w ok (VIs w ok d) t.l (.slice a2 t.l.length c2) ∧ StrsAre w ok t.keys (.slice a1 t.keys.length c1)) := hidI (by
    obtain ⟨ks, ls, e, h1, h2, h3, h4, h5⟩ := h
    simp only [Value.agg.injEq, Array.mk.injEq, List.cons.injEq, and_true] at e
    obtain ⟨-, -, -, rfl, rfl⟩ := e
    exact ⟨h5, h4⟩)
  have lk : t.keys.length ≤ 100000 := by rw [HL.out]; exact hl
  clear h ho
  unfold str
  have HF : Hid _ := hidI (FO.stays w t a1 a2 c1 c2)
  have I0 : Hid (WoI w ok d t key a1 a2 c1 c2 0 (((w.alloc (.cells #[.int .i64 t.kind, .int .i64 t.n, .string ⟨t.s.toArray⟩, .slice a1 t.keys.length c1, .slice a2 t.l.length c2] 25)).alloc (.cells #[.int .i64 0, .int .i64 0, .string ⟨#[]⟩, .slice none 0 0, .slice none 0 0] 25)).alloc (.cells #[.int .i64 5, .int .i64 0, .string ⟨#[]⟩, .slice none 0 0, .slice none 0 0] 25))) := hidI (by
    have hb : Below w.heap.size w (((w.alloc (.cells #[.int .i64 t.kind, .int .i64 t.n, .string ⟨t.s.toArray⟩, .slice a1 t.keys.length c1, .slice a2 t.l.length c2] 25)).alloc (.cells #[.int .i64 0, .int .i64 0, .string ⟨#[]⟩, .slice none 0 0, .slice none 0 0] 25)).alloc (.cells #[.int .i64 5, .int .i64 0, .string ⟨#[]⟩, .slice none 0 0, .slice none 0 0] 25)) := bel_trans (bel_trans (bel_alloc _ _) (bel_alloc _ _)) (bel_alloc _ _)
    refine ⟨[], .slice none 0 0, .slice none 0 0, ⟨?_, ⟨?_, ?_⟩, hb⟩, OE.nil hb (by omega), by simp, by simp⟩
    · exact h3c w _ _ _
    · exact h3a w _ _ _
    · exact h3b w _ _ _)
  go_enter Tryd.func55, Tryd.ntmps55
  go_wp2_with fail
  go_loopg [12] t.keys.length (fun gk i wr => ∃ k : Nat, k ≤ t.keys.length ∧ gk = t.keys.length - k ∧ i = .int .i64 k ∧ WoI w ok d t key a1 a2 c1 c2 k wr)
  case atStart => exact ⟨0, Nat.zero_le _, rfl, rfl, I0.out⟩
  case round =>
    obtain ⟨k, hk, hgk, rfl, hI⟩ := hrel
    have GK := hidI hgk
    have II := hidI hI
    clear hgk hI I0
    by_cases hlt : k < t.keys.length
    · have hlt' : k < t.l.length := by have := HL.out; omega
      obtain ⟨kb, ko, rfl, j1, j2, jk⟩ := strs_at VV.out.2 hlt
      have w1 : (0 : Int) ≤ (k : Int) := by omega
      have w2 : (k : Int) < (t.keys.length : Int) := by omega
      have w3 : (k : Int) < (t.l.length : Int) := by omega
      unfold maxLen at j2
      by_cases he : t.keys[k] = key
      · have e3 : (t.keys[k] == key) = true := by simp [he]
        have HN := hidI (wo_less HL.out hlt he II.out)
        have jk2 := cell_bel (by obtain ⟨ps, kv, lv, i1, -⟩ := II.out; exact i1.2.2) jk
        clear he
        go_wp2_with fail
        go_roundg (t.keys.length - (k + 1))
        case measure => rw [GK.out]; omega
        case rel => exact ⟨k + 1, hlt, rfl, by go_num, HN.out⟩
      · have e3 : (t.keys[k] == key) = false := by simp [he]
        have HNE := hidI he
        obtain ⟨xb, xo, rfl, j3, j4, a5, c5, a6, c6, g0, g1, g2, g3, g4, g5⟩ := vals_at VV.out.1 hlt'
        unfold maxLen at j4
        have G0 := hidI g0
        have G1 := hidI g1
        have G2 := hidI g2
        have G3 := hidI g3
        have G4 := hidI g4
        have HY := hidI g5.below
        obtain ⟨ps, kv, lv, i1, i2, i3, i4⟩ := II.out
        have jk2 := cell_bel i1.2.2 jk
        have HPS := hidI i3
        have hpl : ps.length ≤ 100000 := by
          have h0 := congrArg List.length i3
          have h1 : (woF key (t.keys.zip t.l)).length ≤ (t.keys.zip t.l).length := List.length_filter_le _ _
          simp at h0 h1
          omega
        have hnk : (ps.map Prod.fst).length ≤ 1000000 := by rw [List.length_map]; omega
        have hnl : (ps.map Prod.snd).length ≤ 1000000 := by rw [List.length_map]; omega
        have OEc := hidI i2
        have hBc : w.heap.size + 2 + 1 ≤ wr.heap.size := i4
        have SOc := hidI i1
        have LK : Hid (∀ g, kv.ownBlock = some g → g < wr.heap.size) := hidI (fun g e => (i2.kown g e).2)
        clear he g0 g1 g2 g3 g4 g5 i1 i2 i3 i4 hpl
        go_upto_region 6 with fail
        refine wp_region_T (SO w 2 (FO w t (some ⟨kb, ko, none⟩) (some ⟨xb, xo, none⟩) c1 c2) kv lv) [15] (by kernel_rfl) (SOc.out.drew HF.out) (fun hHeld => ?_)
        refine wpAnyT_take (i := 0) (v := ?_) [1, 4, 13, 14, 15, 16, 17] (oi := { dst := some 20, op := Go.Op.fieldAddr 25 (Go.Operand.tmp 5) 3, type := 0, pos := "low.go:352", after := #[], guard := none }) rfl (by kernel_rfl) (by kernel_rfl) (by kernel_rfl) (by kernel_rfl) (fun _ _ _ h => h) (Or.inl ⟨by rfl, ?_⟩) hHeld ?_
        rotate_left
        · intro wS hSw
          go_simp
          all_goals with_reducible rfl
        simp only [Act.put, List.setIfInBounds_toArray, List.set_cons_zero, List.set_cons_succ]
        refine wpAnyT_take (i := 1) (v := ?_) [4, 13, 14, 15, 16, 17] (oi := { dst := some 21, op := Go.Op.load 22 (Go.Operand.tmp 20), type := 22, pos := "low.go:352", after := #[{ on := 0, ground := Go.Ground.data }], guard := none }) rfl (by kernel_rfl) (by kernel_rfl) (by kernel_rfl) (by kernel_rfl) (fun _ _ _ h => h) (Or.inl ⟨by rfl, ?_⟩) hHeld ?_
        rotate_left
        · intro wS hSw
          obtain ⟨s1, ⟨s2, s3⟩, s4⟩ := hSw
          obtain ⟨x0, x1, x2, x3, x4, -⟩ := s1.c
          obtain ⟨y0, y1, y2, y3, y4, -⟩ := s2.c
          have e0 := cell_bel s4 G0.out
          have e1 := cell_bel s4 G1.out
          have e2 := cell_bel s4 G2.out
          have e3 := cell_bel s4 G3.out
          have e4 := cell_bel s4 G4.out
          go_simp
          all_goals with_reducible rfl
        simp only [Act.put, List.setIfInBounds_toArray, List.set_cons_zero, List.set_cons_succ]
        refine wpAnyT_take (i := 2) (v := ?_) [3, 4, 13, 14, 15, 16, 17] (oi := { dst := some 22, op := Go.Op.move (Go.Operand.tmp 7), type := 9, pos := "low.go:352", after := #[], guard := none }) rfl (by kernel_rfl) (by kernel_rfl) (by kernel_rfl) (by kernel_rfl) (fun _ _ _ h => h) (Or.inl ⟨by rfl, ?_⟩) hHeld ?_
        rotate_left
        · intro wS hSw
          go_simp
          all_goals with_reducible rfl
        simp only [Act.put, List.setIfInBounds_toArray, List.set_cons_zero, List.set_cons_succ]
        refine wpAnyT_take (i := 5) (v := ?_) [6, 13, 14, 15, 16, 17] (oi := { dst := some 25, op := Go.Op.fieldAddr 25 (Go.Operand.tmp 5) 4, type := 0, pos := "low.go:352", after := #[], guard := none }) rfl (by kernel_rfl) (by kernel_rfl) (by kernel_rfl) (by kernel_rfl) (fun _ _ _ h => h) (Or.inl ⟨by rfl, ?_⟩) hHeld ?_
        rotate_left
        · intro wS hSw
          go_simp
          all_goals with_reducible rfl
        simp only [Act.put, List.setIfInBounds_toArray, List.set_cons_zero, List.set_cons_succ]
        refine wpAnyT_take (i := 6) (v := ?_) [13, 14, 15, 16, 17] (oi := { dst := some 26, op := Go.Op.load 23 (Go.Operand.tmp 25), type := 23, pos := "low.go:352", after := #[{ on := 5, ground := Go.Ground.data }], guard := none }) rfl (by kernel_rfl) (by kernel_rfl) (by kernel_rfl) (by kernel_rfl) (fun _ _ _ h => h) (Or.inl ⟨by rfl, ?_⟩) hHeld ?_
        rotate_left
        · intro wS hSw
          obtain ⟨s1, ⟨s2, s3⟩, s4⟩ := hSw
          obtain ⟨x0, x1, x2, x3, x4, -⟩ := s1.c
          obtain ⟨y0, y1, y2, y3, y4, -⟩ := s2.c
          have e0 := cell_bel s4 G0.out
          have e1 := cell_bel s4 G1.out
          have e2 := cell_bel s4 G2.out
          have e3 := cell_bel s4 G3.out
          have e4 := cell_bel s4 G4.out
          go_simp
          all_goals with_reducible rfl
        simp only [Act.put, List.setIfInBounds_toArray, List.set_cons_zero, List.set_cons_succ]
        refine wpAnyT_take (i := 7) (v := ?_) [8, 10, 11, 12, 13, 15, 16, 17] (oi := { dst := some 27, op := Go.Op.fieldAddr 25 (Go.Operand.tmp 2) 4, type := 0, pos := "low.go:352", after := #[], guard := none }) rfl (by kernel_rfl) (by kernel_rfl) (by kernel_rfl) (by kernel_rfl) (fun _ _ _ h => h) (Or.inl ⟨by rfl, ?_⟩) hHeld ?_
        rotate_left
        · intro wS hSw
          go_simp
          all_goals with_reducible rfl
        simp only [Act.put, List.setIfInBounds_toArray, List.set_cons_zero, List.set_cons_succ]
        refine wpAnyT_take (i := 8) (v := ?_) [10, 11, 12, 13, 15, 16, 17] (oi := { dst := some 28, op := Go.Op.load 23 (Go.Operand.tmp 27), type := 23, pos := "low.go:352", after := #[{ on := 7, ground := Go.Ground.data }], guard := none }) rfl (by kernel_rfl) (by kernel_rfl) (by kernel_rfl) (by kernel_rfl) (fun _ _ _ h => h) (Or.inl ⟨by rfl, ?_⟩) hHeld ?_
        rotate_left
        · intro wS hSw
          obtain ⟨s1, ⟨s2, s3⟩, s4⟩ := hSw
          obtain ⟨x0, x1, x2, x3, x4, -⟩ := s1.c
          obtain ⟨y0, y1, y2, y3, y4, -⟩ := s2.c
          have e0 := cell_bel s4 G0.out
          have e1 := cell_bel s4 G1.out
          have e2 := cell_bel s4 G2.out
          have e3 := cell_bel s4 G3.out
          have e4 := cell_bel s4 G4.out
          go_simp
          all_goals with_reducible rfl
        simp only [Act.put, List.setIfInBounds_toArray, List.set_cons_zero, List.set_cons_succ]
        refine wpAnyT_take (i := 9) (v := ?_) [10, 11, 12, 13, 15, 16, 17] (oi := { dst := some 29, op := Go.Op.move (Go.Operand.tmp 6), type := 3, pos := "low.go:352", after := #[], guard := none }) rfl (by kernel_rfl) (by kernel_rfl) (by kernel_rfl) (by kernel_rfl) (fun _ _ _ h => h) (Or.inl ⟨by rfl, ?_⟩) hHeld ?_
        rotate_left
        · intro wS hSw
          go_simp
          all_goals with_reducible rfl
        simp only [Act.put, List.setIfInBounds_toArray, List.set_cons_zero, List.set_cons_succ]
        refine wpAnyT_take (i := 10) (v := ?_) [11, 12, 13, 15, 16, 17] (oi := { dst := some 30, op := Go.Op.indexAddr 23 (Go.Operand.tmp 28) (Go.Operand.tmp 29), type := 0, pos := "low.go:352", after := #[{ on := 8, ground := Go.Ground.data }, { on := 9, ground := Go.Ground.data }], guard := none }) rfl (by kernel_rfl) (by kernel_rfl) (by kernel_rfl) (by kernel_rfl) (fun _ _ _ h => h) (Or.inl ⟨by rfl, ?_⟩) hHeld ?_
        rotate_left
        · intro wS hSw
          go_simp
          all_goals with_reducible rfl
        simp only [Act.put, List.setIfInBounds_toArray, List.set_cons_zero, List.set_cons_succ]
        refine wpAnyT_take (i := 11) (v := ?_) [12, 13, 15, 16, 17] (oi := { dst := some 31, op := Go.Op.load 25 (Go.Operand.tmp 30), type := 25, pos := "low.go:352", after := #[{ on := 10, ground := Go.Ground.data }], guard := none }) rfl (by kernel_rfl) (by kernel_rfl) (by kernel_rfl) (by kernel_rfl) (fun _ _ _ h => h) (Or.inl ⟨by rfl, ?_⟩) hHeld ?_
        rotate_left
        · intro wS hSw
          obtain ⟨s1, ⟨s2, s3⟩, s4⟩ := hSw
          obtain ⟨x0, x1, x2, x3, x4, -⟩ := s1.c
          obtain ⟨y0, y1, y2, y3, y4, -⟩ := s2.c
          have e0 := cell_bel s4 G0.out
          have e1 := cell_bel s4 G1.out
          have e2 := cell_bel s4 G2.out
          have e3 := cell_bel s4 G3.out
          have e4 := cell_bel s4 G4.out
          go_simp
          all_goals with_reducible rfl
        simp only [Act.put, List.setIfInBounds_toArray, List.set_cons_zero, List.set_cons_succ]
        refine wpAnyT_ready (rs := [3, 12]) (by kernel_rfl) (by simp) ?_
        refine AllReadyT.cons (i := 3) (o := { dst := some 23, op := Go.Op.buildSlice 22 1 #[(0, Go.Operand.tmp 22)], type := 22, pos := "low.go:352", after := #[{ on := 2, ground := Go.Ground.data }], guard := none }) rfl (fun K hK => ?_) ?_
        · go_simp
          replace SOc := hidI (SOc.out.alloc HF.out (.cells #[.string ⟨t.keys[k].toArray⟩] 9))
          replace OEc := hidI (OEc.out.bel (bel_alloc _ (.cells #[.string ⟨t.keys[k].toArray⟩] 9)))
          replace hBc := Nat.le_trans hBc (bel_alloc _ (.cells #[.string ⟨t.keys[k].toArray⟩] 9)).size
          have NBK : Hid ((wr.alloc (.cells #[.string ⟨t.keys[k].toArray⟩] 9)).heap[wr.heap.size]? = some (.cells #[.string ⟨t.keys[k].toArray⟩] 9)) := hidI (heap_alloc_new _ _)
          refine hK.out _ _ (SOc.out.drew HF.out) (fun hHeld2 => ?_)
          clear hK K
          replace hHeld := hHeld2
          clear hHeld2
          try simp only [Act.put, List.setIfInBounds_toArray, List.set_cons_zero, List.set_cons_succ]
          refine wpAnyT_ready (rs := [4, 12]) (by kernel_rfl) (by simp) ?_
          refine AllReadyT.cons (i := 4) (o := { dst := some 24, op := Go.Op.call { callee := Go.Callee.builtin Go.Builtin.append, args := #[Go.Operand.tmp 21, Go.Operand.tmp 23], argTypes := #[22, 22] }, type := 22, pos := "low.go:352", after := #[{ on := 1, ground := Go.Ground.data }, { on := 3, ground := Go.Ground.data }], guard := none }) rfl (fun K hK => ?_) ?_
          · have OEd := hidI OEc.out.drew
            have NBd : Hid (((wr.alloc (.cells #[.string ⟨t.keys[k].toArray⟩] 9)).drew).heap[wr.heap.size]? = some (.cells #[.string ⟨t.keys[k].toArray⟩] 9)) := hidI NBK.out
            refine step_run (by rfl) (.tmp 21) (.tmp 23) 22 (by rfl) _ _ rfl rfl _ (fun ty => OEd.out.key NBd.out hnk (by exact hBc) ty) (fun v9 W9 hR => ?_)
            obtain ⟨ho9, hg9, gK, cK, rfl⟩ := hR
            replace SOc := hidI (hHeld.grown HF.out hg9 (fun g e => (OEd.out.kown g e).1))
            refine hK.out _ _ SOc.out (fun hHeld2 => ?_)
            replace OEc := hidI ho9
            replace hBc := Nat.le_trans (by exact hBc) hg9.size
            clear ho9 hg9 OEd NBd
            clear hK K
            replace hHeld := hHeld2
            clear hHeld2
            try simp only [Act.put, List.setIfInBounds_toArray, List.set_cons_zero, List.set_cons_succ]
            refine wpAnyT_take (i := 14) (v := ?_) [15, 16, 17] (oi := { dst := some 34, op := Go.Op.fieldAddr 25 (Go.Operand.tmp 5) 3, type := 0, pos := "low.go:352", after := #[{ on := 0, ground := Go.Ground.phase }, { on := 1, ground := Go.Ground.phase }, { on := 2, ground := Go.Ground.phase }, { on := 3, ground := Go.Ground.phase }, { on := 4, ground := Go.Ground.phase }, { on := 5, ground := Go.Ground.phase }, { on := 6, ground := Go.Ground.phase }, { on := 7, ground := Go.Ground.textOnly Go.Departure.lateStores }, { on := 8, ground := Go.Ground.textOnly Go.Departure.lateStores }, { on := 9, ground := Go.Ground.textOnly Go.Departure.lateStores }, { on := 10, ground := Go.Ground.textOnly Go.Departure.lateStores }, { on := 11, ground := Go.Ground.textOnly Go.Departure.lateStores }, { on := 12, ground := Go.Ground.textOnly Go.Departure.lateStores }, { on := 13, ground := Go.Ground.textOnly Go.Departure.lateStoresUnsure }], guard := none }) rfl (by kernel_rfl) (by kernel_rfl) (by kernel_rfl) (by kernel_rfl) (fun _ _ _ h => h) (Or.inl ⟨by rfl, ?_⟩) hHeld ?_
            rotate_left
            · intro wS hSw
              go_simp
              all_goals with_reducible rfl
            simp only [Act.put, List.setIfInBounds_toArray, List.set_cons_zero, List.set_cons_succ]
            refine wpAnyT_ready (rs := [12]) (by kernel_rfl) (by simp) ?_
            refine AllReadyT.cons (i := 12) (o := { dst := some 32, op := Go.Op.buildSlice 23 1 #[(0, Go.Operand.tmp 31)], type := 23, pos := "low.go:352", after := #[{ on := 11, ground := Go.Ground.data }], guard := none }) rfl (fun K hK => ?_) ?_
            · go_simp
              replace SOc := hidI (SOc.out.alloc HF.out (.cells #[.int .i64 t.l[k].kind, .int .i64 t.l[k].n, .string ⟨t.l[k].s.toArray⟩, .slice a5 t.l[k].keys.length c5, .slice a6 t.l[k].l.length c6] 25))
              replace OEc := hidI (OEc.out.bel (bel_alloc _ (.cells #[.int .i64 t.l[k].kind, .int .i64 t.l[k].n, .string ⟨t.l[k].s.toArray⟩, .slice a5 t.l[k].keys.length c5, .slice a6 t.l[k].l.length c6] 25)))
              replace hBc := Nat.le_trans hBc (bel_alloc _ (.cells #[.int .i64 t.l[k].kind, .int .i64 t.l[k].n, .string ⟨t.l[k].s.toArray⟩, .slice a5 t.l[k].keys.length c5, .slice a6 t.l[k].l.length c6] 25)).size
              have NBV : Hid ((W9.alloc (.cells #[.int .i64 t.l[k].kind, .int .i64 t.l[k].n, .string ⟨t.l[k].s.toArray⟩, .slice a5 t.l[k].keys.length c5, .slice a6 t.l[k].l.length c6] 25)).heap[W9.heap.size]? = some (.cells #[.int .i64 t.l[k].kind, .int .i64 t.l[k].n, .string ⟨t.l[k].s.toArray⟩, .slice a5 t.l[k].keys.length c5, .slice a6 t.l[k].l.length c6] 25)) := hidI (heap_alloc_new _ _)
              refine hK.out _ _ (SOc.out) (fun hHeld2 => ?_)
              clear hK K
              replace hHeld := hHeld2
              clear hHeld2
              try simp only [Act.put, List.setIfInBounds_toArray, List.set_cons_zero, List.set_cons_succ]
              refine wpAnyT_ready (rs := [13]) (by kernel_rfl) (by simp) ?_
              refine AllReadyT.cons (i := 13) (o := { dst := some 33, op := Go.Op.call { callee := Go.Callee.builtin Go.Builtin.append, args := #[Go.Operand.tmp 26, Go.Operand.tmp 32], argTypes := #[23, 23] }, type := 23, pos := "low.go:352", after := #[{ on := 6, ground := Go.Ground.data }, { on := 12, ground := Go.Ground.data }, { on := 4, ground := Go.Ground.chain }], guard := none }) rfl (fun K hK => ?_) ?_
              · have OEd := hidI OEc.out
                have HY2 := hidI (HY.out.bel OEd.out.below)
                have NBd := hidI NBV.out
                refine step_run (by rfl) (.tmp 26) (.tmp 32) 23 (by rfl) _ _ rfl rfl _ (fun ty => OEd.out.item NBd.out HY2.out hnl (by exact hBc) ty) (fun v9 W9 hR => ?_)
                obtain ⟨ho9, hg9, gV, cV, rfl⟩ := hR
                replace SOc := hidI (hHeld.grown HF.out hg9 (fun g e => (OEd.out.lown g e).1))
                refine hK.out _ _ SOc.out (fun hHeld2 => ?_)
                replace OEc := hidI ho9
                replace hBc := Nat.le_trans (by exact hBc) hg9.size
                clear ho9 hg9 OEd NBd
                clear hK K
                replace hHeld := hHeld2
                clear hHeld2
                try simp only [Act.put, List.setIfInBounds_toArray, List.set_cons_zero, List.set_cons_succ]
                obtain ⟨o0, o1, o2, o3, o4, f0, f1, f2, f3, f4⟩ := hHeld.1.c
                have HE := hidI hHeld
                clear hHeld
                refine wpAnyT_last (i := 15) (o := { dst := none, op := Go.Op.store 22 (Go.Operand.tmp 34) (Go.Operand.tmp 24), type := 0, pos := "low.go:352", after := #[{ on := 14, ground := Go.Ground.data }, { on := 4, ground := Go.Ground.data }, { on := 13, ground := Go.Ground.chain }, { on := 0, ground := Go.Ground.phase }, { on := 1, ground := Go.Ground.phase }, { on := 2, ground := Go.Ground.phase }, { on := 3, ground := Go.Ground.phase }, { on := 4, ground := Go.Ground.phase }, { on := 5, ground := Go.Ground.phase }, { on := 6, ground := Go.Ground.phase }, { on := 7, ground := Go.Ground.textOnly Go.Departure.lateStores }, { on := 8, ground := Go.Ground.textOnly Go.Departure.lateStores }, { on := 9, ground := Go.Ground.textOnly Go.Departure.lateStores }, { on := 10, ground := Go.Ground.textOnly Go.Departure.lateStores }, { on := 11, ground := Go.Ground.textOnly Go.Departure.lateStores }, { on := 12, ground := Go.Ground.textOnly Go.Departure.lateStores }, { on := 13, ground := Go.Ground.textOnly Go.Departure.lateStoresUnsure }], guard := none }) (by kernel_rfl) (by rfl) rfl (fun K hK => ?_)
                go_simp
                refine hK.out _ _ ?_
                clear hK K
                try simp only [Act.put, List.setIfInBounds_toArray, List.set_cons_zero, List.set_cons_succ]
                refine wpAnyT_last (i := 16) (o := { dst := some 35, op := Go.Op.fieldAddr 25 (Go.Operand.tmp 5) 4, type := 0, pos := "low.go:352", after := #[{ on := 0, ground := Go.Ground.phase }, { on := 1, ground := Go.Ground.phase }, { on := 2, ground := Go.Ground.phase }, { on := 3, ground := Go.Ground.phase }, { on := 4, ground := Go.Ground.phase }, { on := 5, ground := Go.Ground.phase }, { on := 6, ground := Go.Ground.phase }, { on := 7, ground := Go.Ground.phase }, { on := 8, ground := Go.Ground.phase }, { on := 9, ground := Go.Ground.phase }, { on := 10, ground := Go.Ground.phase }, { on := 11, ground := Go.Ground.phase }, { on := 12, ground := Go.Ground.phase }, { on := 13, ground := Go.Ground.phase }, { on := 14, ground := Go.Ground.phase }, { on := 15, ground := Go.Ground.phase }], guard := none }) (by kernel_rfl) (by rfl) rfl (fun K hK => ?_)
                go_simp
                refine hK.out _ _ ?_
                clear hK K
                try simp only [Act.put, List.setIfInBounds_toArray, List.set_cons_zero, List.set_cons_succ]
                refine wpAnyT_last (i := 17) (o := { dst := none, op := Go.Op.store 23 (Go.Operand.tmp 35) (Go.Operand.tmp 33), type := 0, pos := "low.go:352", after := #[{ on := 16, ground := Go.Ground.data }, { on := 13, ground := Go.Ground.data }, { on := 15, ground := Go.Ground.chain }, { on := 0, ground := Go.Ground.phase }, { on := 1, ground := Go.Ground.phase }, { on := 2, ground := Go.Ground.phase }, { on := 3, ground := Go.Ground.phase }, { on := 4, ground := Go.Ground.phase }, { on := 5, ground := Go.Ground.phase }, { on := 6, ground := Go.Ground.phase }, { on := 7, ground := Go.Ground.phase }, { on := 8, ground := Go.Ground.phase }, { on := 9, ground := Go.Ground.phase }, { on := 10, ground := Go.Ground.phase }, { on := 11, ground := Go.Ground.phase }, { on := 12, ground := Go.Ground.phase }, { on := 13, ground := Go.Ground.phase }, { on := 14, ground := Go.Ground.phase }, { on := 15, ground := Go.Ground.phase }], guard := none }) (by kernel_rfl) (by rfl) rfl (fun K hK => ?_)
                go_simp
                refine hK.out _ _ ?_
                clear hK K
                try simp only [Act.put, List.setIfInBounds_toArray, List.set_cons_zero, List.set_cons_succ]
                refine wpAnyT_done (by kernel_rfl) ?_ _
                go_wp2_with fail
                go_roundg (t.keys.length - (k + 1))
                case measure => rw [GK.out]; omega
                case rel => exact ⟨k + 1, hlt, rfl, by go_num, wo_more HL.out hlt hlt' HNE.out HPS.out HE.out (by have h9 := OEc.out; simp only [List.length_map] at h9; exact h9)⟩
              exact AllReadyT.nil
            exact AllReadyT.nil
          refine AllReadyT.cons (i := 12) (o := { dst := some 32, op := Go.Op.buildSlice 23 1 #[(0, Go.Operand.tmp 31)], type := 23, pos := "low.go:352", after := #[{ on := 11, ground := Go.Ground.data }], guard := none }) rfl (fun K hK => ?_) ?_
          · go_simp
            replace SOc := hidI (SOc.out.alloc HF.out (.cells #[.int .i64 t.l[k].kind, .int .i64 t.l[k].n, .string ⟨t.l[k].s.toArray⟩, .slice a5 t.l[k].keys.length c5, .slice a6 t.l[k].l.length c6] 25))
            replace OEc := hidI (OEc.out.bel (bel_alloc _ (.cells #[.int .i64 t.l[k].kind, .int .i64 t.l[k].n, .string ⟨t.l[k].s.toArray⟩, .slice a5 t.l[k].keys.length c5, .slice a6 t.l[k].l.length c6] 25)))
            replace hBc := Nat.le_trans hBc (bel_alloc _ (.cells #[.int .i64 t.l[k].kind, .int .i64 t.l[k].n, .string ⟨t.l[k].s.toArray⟩, .slice a5 t.l[k].keys.length c5, .slice a6 t.l[k].l.length c6] 25)).size
            clear NBK
            have NBK : Hid (((wr.alloc (.cells #[.string ⟨t.keys[k].toArray⟩] 9)).alloc (.cells #[.int .i64 t.l[k].kind, .int .i64 t.l[k].n, .string ⟨t.l[k].s.toArray⟩, .slice a5 t.l[k].keys.length c5, .slice a6 t.l[k].l.length c6] 25)).heap[wr.heap.size]? = some (.cells #[.string ⟨t.keys[k].toArray⟩] 9)) := hidI (h2a _ _ _)
            have NBV : Hid (((wr.alloc (.cells #[.string ⟨t.keys[k].toArray⟩] 9)).alloc (.cells #[.int .i64 t.l[k].kind, .int .i64 t.l[k].n, .string ⟨t.l[k].s.toArray⟩, .slice a5 t.l[k].keys.length c5, .slice a6 t.l[k].l.length c6] 25)).heap[wr.heap.size + 1]? = some (.cells #[.int .i64 t.l[k].kind, .int .i64 t.l[k].n, .string ⟨t.l[k].s.toArray⟩, .slice a5 t.l[k].keys.length c5, .slice a6 t.l[k].l.length c6] 25)) := hidI (h2b _ _ _)
            refine hK.out _ _ (SOc.out.drew HF.out) (fun hHeld2 => ?_)
            clear hK K
            replace hHeld := hHeld2
            clear hHeld2
            try simp only [Act.put, List.setIfInBounds_toArray, List.set_cons_zero, List.set_cons_succ]
            refine wpAnyT_ready (rs := [4]) (by kernel_rfl) (by simp) ?_
            refine AllReadyT.cons (i := 4) (o := { dst := some 24, op := Go.Op.call { callee := Go.Callee.builtin Go.Builtin.append, args := #[Go.Operand.tmp 21, Go.Operand.tmp 23], argTypes := #[22, 22] }, type := 22, pos := "low.go:352", after := #[{ on := 1, ground := Go.Ground.data }, { on := 3, ground := Go.Ground.data }], guard := none }) rfl (fun K hK => ?_) ?_
            · have OEd := hidI OEc.out.drew
              have NBd : Hid ((((wr.alloc (.cells #[.string ⟨t.keys[k].toArray⟩] 9)).alloc (.cells #[.int .i64 t.l[k].kind, .int .i64 t.l[k].n, .string ⟨t.l[k].s.toArray⟩, .slice a5 t.l[k].keys.length c5, .slice a6 t.l[k].l.length c6] 25)).drew).heap[wr.heap.size]? = some (.cells #[.string ⟨t.keys[k].toArray⟩] 9)) := hidI NBK.out
              refine step_run (by rfl) (.tmp 21) (.tmp 23) 22 (by rfl) _ _ rfl rfl _ (fun ty => OEd.out.key NBd.out hnk (by exact hBc) ty) (fun v9 W9 hR => ?_)
              obtain ⟨ho9, hg9, gK, cK, rfl⟩ := hR
              replace SOc := hidI (hHeld.grown HF.out hg9 (fun g e => (OEd.out.kown g e).1))
              refine hK.out _ _ SOc.out (fun hHeld2 => ?_)
              replace NBV := hidI (nb_grown ((by exact NBV.out : (((wr.alloc (.cells #[.string ⟨t.keys[k].toArray⟩] 9)).alloc (.cells #[.int .i64 t.l[k].kind, .int .i64 t.l[k].n, .string ⟨t.l[k].s.toArray⟩, .slice a5 t.l[k].keys.length c5, .slice a6 t.l[k].l.length c6] 25)).drew).heap[wr.heap.size + 1]? = some (.cells #[.int .i64 t.l[k].kind, .int .i64 t.l[k].n, .string ⟨t.l[k].s.toArray⟩, .slice a5 t.l[k].keys.length c5, .slice a6 t.l[k].l.length c6] 25))) hg9 (fun e => by have := LK.out _ e.symm; omega))
              replace OEc := hidI ho9
              replace hBc := Nat.le_trans (by exact hBc) hg9.size
              clear ho9 hg9 OEd NBd
              clear hK K
              replace hHeld := hHeld2
              clear hHeld2
              try simp only [Act.put, List.setIfInBounds_toArray, List.set_cons_zero, List.set_cons_succ]
              refine wpAnyT_take (i := 14) (v := ?_) [15, 16, 17] (oi := { dst := some 34, op := Go.Op.fieldAddr 25 (Go.Operand.tmp 5) 3, type := 0, pos := "low.go:352", after := #[{ on := 0, ground := Go.Ground.phase }, { on := 1, ground := Go.Ground.phase }, { on := 2, ground := Go.Ground.phase }, { on := 3, ground := Go.Ground.phase }, { on := 4, ground := Go.Ground.phase }, { on := 5, ground := Go.Ground.phase }, { on := 6, ground := Go.Ground.phase }, { on := 7, ground := Go.Ground.textOnly Go.Departure.lateStores }, { on := 8, ground := Go.Ground.textOnly Go.Departure.lateStores }, { on := 9, ground := Go.Ground.textOnly Go.Departure.lateStores }, { on := 10, ground := Go.Ground.textOnly Go.Departure.lateStores }, { on := 11, ground := Go.Ground.textOnly Go.Departure.lateStores }, { on := 12, ground := Go.Ground.textOnly Go.Departure.lateStores }, { on := 13, ground := Go.Ground.textOnly Go.Departure.lateStoresUnsure }], guard := none }) rfl (by kernel_rfl) (by kernel_rfl) (by kernel_rfl) (by kernel_rfl) (fun _ _ _ h => h) (Or.inl ⟨by rfl, ?_⟩) hHeld ?_
              rotate_left
              · intro wS hSw
                go_simp
                all_goals with_reducible rfl
              simp only [Act.put, List.setIfInBounds_toArray, List.set_cons_zero, List.set_cons_succ]
              refine wpAnyT_ready (rs := [13]) (by kernel_rfl) (by simp) ?_
              refine AllReadyT.cons (i := 13) (o := { dst := some 33, op := Go.Op.call { callee := Go.Callee.builtin Go.Builtin.append, args := #[Go.Operand.tmp 26, Go.Operand.tmp 32], argTypes := #[23, 23] }, type := 23, pos := "low.go:352", after := #[{ on := 6, ground := Go.Ground.data }, { on := 12, ground := Go.Ground.data }, { on := 4, ground := Go.Ground.chain }], guard := none }) rfl (fun K hK => ?_) ?_
              · have OEd := hidI OEc.out
                have HY2 := hidI (HY.out.bel OEd.out.below)
                have NBd := hidI NBV.out
                refine step_run (by rfl) (.tmp 26) (.tmp 32) 23 (by rfl) _ _ rfl rfl _ (fun ty => OEd.out.item NBd.out HY2.out hnl (by exact hBc) ty) (fun v9 W9 hR => ?_)
                obtain ⟨ho9, hg9, gV, cV, rfl⟩ := hR
                replace SOc := hidI (hHeld.grown HF.out hg9 (fun g e => (OEd.out.lown g e).1))
                refine hK.out _ _ SOc.out (fun hHeld2 => ?_)
                replace OEc := hidI ho9
                replace hBc := Nat.le_trans (by exact hBc) hg9.size
                clear ho9 hg9 OEd NBd
                clear hK K
                replace hHeld := hHeld2
                clear hHeld2
                try simp only [Act.put, List.setIfInBounds_toArray, List.set_cons_zero, List.set_cons_succ]
                obtain ⟨o0, o1, o2, o3, o4, f0, f1, f2, f3, f4⟩ := hHeld.1.c
                have HE := hidI hHeld
                clear hHeld
                refine wpAnyT_last (i := 15) (o := { dst := none, op := Go.Op.store 22 (Go.Operand.tmp 34) (Go.Operand.tmp 24), type := 0, pos := "low.go:352", after := #[{ on := 14, ground := Go.Ground.data }, { on := 4, ground := Go.Ground.data }, { on := 13, ground := Go.Ground.chain }, { on := 0, ground := Go.Ground.phase }, { on := 1, ground := Go.Ground.phase }, { on := 2, ground := Go.Ground.phase }, { on := 3, ground := Go.Ground.phase }, { on := 4, ground := Go.Ground.phase }, { on := 5, ground := Go.Ground.phase }, { on := 6, ground := Go.Ground.phase }, { on := 7, ground := Go.Ground.textOnly Go.Departure.lateStores }, { on := 8, ground := Go.Ground.textOnly Go.Departure.lateStores }, { on := 9, ground := Go.Ground.textOnly Go.Departure.lateStores }, { on := 10, ground := Go.Ground.textOnly Go.Departure.lateStores }, { on := 11, ground := Go.Ground.textOnly Go.Departure.lateStores }, { on := 12, ground := Go.Ground.textOnly Go.Departure.lateStores }, { on := 13, ground := Go.Ground.textOnly Go.Departure.lateStoresUnsure }], guard := none }) (by kernel_rfl) (by rfl) rfl (fun K hK => ?_)
                go_simp
                refine hK.out _ _ ?_
                clear hK K
                try simp only [Act.put, List.setIfInBounds_toArray, List.set_cons_zero, List.set_cons_succ]
                refine wpAnyT_last (i := 16) (o := { dst := some 35, op := Go.Op.fieldAddr 25 (Go.Operand.tmp 5) 4, type := 0, pos := "low.go:352", after := #[{ on := 0, ground := Go.Ground.phase }, { on := 1, ground := Go.Ground.phase }, { on := 2, ground := Go.Ground.phase }, { on := 3, ground := Go.Ground.phase }, { on := 4, ground := Go.Ground.phase }, { on := 5, ground := Go.Ground.phase }, { on := 6, ground := Go.Ground.phase }, { on := 7, ground := Go.Ground.phase }, { on := 8, ground := Go.Ground.phase }, { on := 9, ground := Go.Ground.phase }, { on := 10, ground := Go.Ground.phase }, { on := 11, ground := Go.Ground.phase }, { on := 12, ground := Go.Ground.phase }, { on := 13, ground := Go.Ground.phase }, { on := 14, ground := Go.Ground.phase }, { on := 15, ground := Go.Ground.phase }], guard := none }) (by kernel_rfl) (by rfl) rfl (fun K hK => ?_)
                go_simp
                refine hK.out _ _ ?_
                clear hK K
                try simp only [Act.put, List.setIfInBounds_toArray, List.set_cons_zero, List.set_cons_succ]
                refine wpAnyT_last (i := 17) (o := { dst := none, op := Go.Op.store 23 (Go.Operand.tmp 35) (Go.Operand.tmp 33), type := 0, pos := "low.go:352", after := #[{ on := 16, ground := Go.Ground.data }, { on := 13, ground := Go.Ground.data }, { on := 15, ground := Go.Ground.chain }, { on := 0, ground := Go.Ground.phase }, { on := 1, ground := Go.Ground.phase }, { on := 2, ground := Go.Ground.phase }, { on := 3, ground := Go.Ground.phase }, { on := 4, ground := Go.Ground.phase }, { on := 5, ground := Go.Ground.phase }, { on := 6, ground := Go.Ground.phase }, { on := 7, ground := Go.Ground.phase }, { on := 8, ground := Go.Ground.phase }, { on := 9, ground := Go.Ground.phase }, { on := 10, ground := Go.Ground.phase }, { on := 11, ground := Go.Ground.phase }, { on := 12, ground := Go.Ground.phase }, { on := 13, ground := Go.Ground.phase }, { on := 14, ground := Go.Ground.phase }, { on := 15, ground := Go.Ground.phase }], guard := none }) (by kernel_rfl) (by rfl) rfl (fun K hK => ?_)
                go_simp
                refine hK.out _ _ ?_
                clear hK K
                try simp only [Act.put, List.setIfInBounds_toArray, List.set_cons_zero, List.set_cons_succ]
                refine wpAnyT_done (by kernel_rfl) ?_ _
                go_wp2_with fail
                go_roundg (t.keys.length - (k + 1))
                case measure => rw [GK.out]; omega
                case rel => exact ⟨k + 1, hlt, rfl, by go_num, wo_more HL.out hlt hlt' HNE.out HPS.out HE.out (by have h9 := OEc.out; simp only [List.length_map] at h9; exact h9)⟩
              exact AllReadyT.nil
            exact AllReadyT.nil
          exact AllReadyT.nil
        refine AllReadyT.cons (i := 12) (o := { dst := some 32, op := Go.Op.buildSlice 23 1 #[(0, Go.Operand.tmp 31)], type := 23, pos := "low.go:352", after := #[{ on := 11, ground := Go.Ground.data }], guard := none }) rfl (fun K hK => ?_) ?_
        · go_simp
          replace SOc := hidI (SOc.out.alloc HF.out (.cells #[.int .i64 t.l[k].kind, .int .i64 t.l[k].n, .string ⟨t.l[k].s.toArray⟩, .slice a5 t.l[k].keys.length c5, .slice a6 t.l[k].l.length c6] 25))
          replace OEc := hidI (OEc.out.bel (bel_alloc _ (.cells #[.int .i64 t.l[k].kind, .int .i64 t.l[k].n, .string ⟨t.l[k].s.toArray⟩, .slice a5 t.l[k].keys.length c5, .slice a6 t.l[k].l.length c6] 25)))
          replace hBc := Nat.le_trans hBc (bel_alloc _ (.cells #[.int .i64 t.l[k].kind, .int .i64 t.l[k].n, .string ⟨t.l[k].s.toArray⟩, .slice a5 t.l[k].keys.length c5, .slice a6 t.l[k].l.length c6] 25)).size
          have NBV : Hid ((wr.alloc (.cells #[.int .i64 t.l[k].kind, .int .i64 t.l[k].n, .string ⟨t.l[k].s.toArray⟩, .slice a5 t.l[k].keys.length c5, .slice a6 t.l[k].l.length c6] 25)).heap[wr.heap.size]? = some (.cells #[.int .i64 t.l[k].kind, .int .i64 t.l[k].n, .string ⟨t.l[k].s.toArray⟩, .slice a5 t.l[k].keys.length c5, .slice a6 t.l[k].l.length c6] 25)) := hidI (heap_alloc_new _ _)
          refine hK.out _ _ (SOc.out.drew HF.out) (fun hHeld2 => ?_)
          clear hK K
          replace hHeld := hHeld2
          clear hHeld2
          try simp only [Act.put, List.setIfInBounds_toArray, List.set_cons_zero, List.set_cons_succ]
          refine wpAnyT_ready (rs := [3]) (by kernel_rfl) (by simp) ?_
          refine AllReadyT.cons (i := 3) (o := { dst := some 23, op := Go.Op.buildSlice 22 1 #[(0, Go.Operand.tmp 22)], type := 22, pos := "low.go:352", after := #[{ on := 2, ground := Go.Ground.data }], guard := none }) rfl (fun K hK => ?_) ?_
          · go_simp
            replace SOc := hidI (SOc.out.alloc HF.out (.cells #[.string ⟨t.keys[k].toArray⟩] 9))
            replace OEc := hidI (OEc.out.bel (bel_alloc _ (.cells #[.string ⟨t.keys[k].toArray⟩] 9)))
            replace hBc := Nat.le_trans hBc (bel_alloc _ (.cells #[.string ⟨t.keys[k].toArray⟩] 9)).size
            clear NBV
            have NBV : Hid (((wr.alloc (.cells #[.int .i64 t.l[k].kind, .int .i64 t.l[k].n, .string ⟨t.l[k].s.toArray⟩, .slice a5 t.l[k].keys.length c5, .slice a6 t.l[k].l.length c6] 25)).alloc (.cells #[.string ⟨t.keys[k].toArray⟩] 9)).heap[wr.heap.size]? = some (.cells #[.int .i64 t.l[k].kind, .int .i64 t.l[k].n, .string ⟨t.l[k].s.toArray⟩, .slice a5 t.l[k].keys.length c5, .slice a6 t.l[k].l.length c6] 25)) := hidI (h2a _ _ _)
            have NBK : Hid (((wr.alloc (.cells #[.int .i64 t.l[k].kind, .int .i64 t.l[k].n, .string ⟨t.l[k].s.toArray⟩, .slice a5 t.l[k].keys.length c5, .slice a6 t.l[k].l.length c6] 25)).alloc (.cells #[.string ⟨t.keys[k].toArray⟩] 9)).heap[wr.heap.size + 1]? = some (.cells #[.string ⟨t.keys[k].toArray⟩] 9)) := hidI (h2b _ _ _)
            refine hK.out _ _ (SOc.out.drew HF.out) (fun hHeld2 => ?_)
            clear hK K
            replace hHeld := hHeld2
            clear hHeld2
            try simp only [Act.put, List.setIfInBounds_toArray, List.set_cons_zero, List.set_cons_succ]
            refine wpAnyT_ready (rs := [4]) (by kernel_rfl) (by simp) ?_
            refine AllReadyT.cons (i := 4) (o := { dst := some 24, op := Go.Op.call { callee := Go.Callee.builtin Go.Builtin.append, args := #[Go.Operand.tmp 21, Go.Operand.tmp 23], argTypes := #[22, 22] }, type := 22, pos := "low.go:352", after := #[{ on := 1, ground := Go.Ground.data }, { on := 3, ground := Go.Ground.data }], guard := none }) rfl (fun K hK => ?_) ?_
            · have OEd := hidI OEc.out.drew
              have NBd : Hid ((((wr.alloc (.cells #[.int .i64 t.l[k].kind, .int .i64 t.l[k].n, .string ⟨t.l[k].s.toArray⟩, .slice a5 t.l[k].keys.length c5, .slice a6 t.l[k].l.length c6] 25)).alloc (.cells #[.string ⟨t.keys[k].toArray⟩] 9)).drew).heap[wr.heap.size + 1]? = some (.cells #[.string ⟨t.keys[k].toArray⟩] 9)) := hidI NBK.out
              refine step_run (by rfl) (.tmp 21) (.tmp 23) 22 (by rfl) _ _ rfl rfl _ (fun ty => OEd.out.key NBd.out hnk (by exact hBc) ty) (fun v9 W9 hR => ?_)
              obtain ⟨ho9, hg9, gK, cK, rfl⟩ := hR
              replace SOc := hidI (hHeld.grown HF.out hg9 (fun g e => (OEd.out.kown g e).1))
              refine hK.out _ _ SOc.out (fun hHeld2 => ?_)
              replace NBV := hidI (nb_grown ((by exact NBV.out : (((wr.alloc (.cells #[.int .i64 t.l[k].kind, .int .i64 t.l[k].n, .string ⟨t.l[k].s.toArray⟩, .slice a5 t.l[k].keys.length c5, .slice a6 t.l[k].l.length c6] 25)).alloc (.cells #[.string ⟨t.keys[k].toArray⟩] 9)).drew).heap[wr.heap.size]? = some (.cells #[.int .i64 t.l[k].kind, .int .i64 t.l[k].n, .string ⟨t.l[k].s.toArray⟩, .slice a5 t.l[k].keys.length c5, .slice a6 t.l[k].l.length c6] 25))) hg9 (fun e => by have := LK.out _ e.symm; omega))
              replace OEc := hidI ho9
              replace hBc := Nat.le_trans (by exact hBc) hg9.size
              clear ho9 hg9 OEd NBd
              clear hK K
              replace hHeld := hHeld2
              clear hHeld2
              try simp only [Act.put, List.setIfInBounds_toArray, List.set_cons_zero, List.set_cons_succ]
              refine wpAnyT_take (i := 14) (v := ?_) [15, 16, 17] (oi := { dst := some 34, op := Go.Op.fieldAddr 25 (Go.Operand.tmp 5) 3, type := 0, pos := "low.go:352", after := #[{ on := 0, ground := Go.Ground.phase }, { on := 1, ground := Go.Ground.phase }, { on := 2, ground := Go.Ground.phase }, { on := 3, ground := Go.Ground.phase }, { on := 4, ground := Go.Ground.phase }, { on := 5, ground := Go.Ground.phase }, { on := 6, ground := Go.Ground.phase }, { on := 7, ground := Go.Ground.textOnly Go.Departure.lateStores }, { on := 8, ground := Go.Ground.textOnly Go.Departure.lateStores }, { on := 9, ground := Go.Ground.textOnly Go.Departure.lateStores }, { on := 10, ground := Go.Ground.textOnly Go.Departure.lateStores }, { on := 11, ground := Go.Ground.textOnly Go.Departure.lateStores }, { on := 12, ground := Go.Ground.textOnly Go.Departure.lateStores }, { on := 13, ground := Go.Ground.textOnly Go.Departure.lateStoresUnsure }], guard := none }) rfl (by kernel_rfl) (by kernel_rfl) (by kernel_rfl) (by kernel_rfl) (fun _ _ _ h => h) (Or.inl ⟨by rfl, ?_⟩) hHeld ?_
              rotate_left
              · intro wS hSw
                go_simp
                all_goals with_reducible rfl
              simp only [Act.put, List.setIfInBounds_toArray, List.set_cons_zero, List.set_cons_succ]
              refine wpAnyT_ready (rs := [13]) (by kernel_rfl) (by simp) ?_
              refine AllReadyT.cons (i := 13) (o := { dst := some 33, op := Go.Op.call { callee := Go.Callee.builtin Go.Builtin.append, args := #[Go.Operand.tmp 26, Go.Operand.tmp 32], argTypes := #[23, 23] }, type := 23, pos := "low.go:352", after := #[{ on := 6, ground := Go.Ground.data }, { on := 12, ground := Go.Ground.data }, { on := 4, ground := Go.Ground.chain }], guard := none }) rfl (fun K hK => ?_) ?_
              · have OEd := hidI OEc.out
                have HY2 := hidI (HY.out.bel OEd.out.below)
                have NBd := hidI NBV.out
                refine step_run (by rfl) (.tmp 26) (.tmp 32) 23 (by rfl) _ _ rfl rfl _ (fun ty => OEd.out.item NBd.out HY2.out hnl (by exact hBc) ty) (fun v9 W9 hR => ?_)
                obtain ⟨ho9, hg9, gV, cV, rfl⟩ := hR
                replace SOc := hidI (hHeld.grown HF.out hg9 (fun g e => (OEd.out.lown g e).1))
                refine hK.out _ _ SOc.out (fun hHeld2 => ?_)
                replace OEc := hidI ho9
                replace hBc := Nat.le_trans (by exact hBc) hg9.size
                clear ho9 hg9 OEd NBd
                clear hK K
                replace hHeld := hHeld2
                clear hHeld2
                try simp only [Act.put, List.setIfInBounds_toArray, List.set_cons_zero, List.set_cons_succ]
                obtain ⟨o0, o1, o2, o3, o4, f0, f1, f2, f3, f4⟩ := hHeld.1.c
                have HE := hidI hHeld
                clear hHeld
                refine wpAnyT_last (i := 15) (o := { dst := none, op := Go.Op.store 22 (Go.Operand.tmp 34) (Go.Operand.tmp 24), type := 0, pos := "low.go:352", after := #[{ on := 14, ground := Go.Ground.data }, { on := 4, ground := Go.Ground.data }, { on := 13, ground := Go.Ground.chain }, { on := 0, ground := Go.Ground.phase }, { on := 1, ground := Go.Ground.phase }, { on := 2, ground := Go.Ground.phase }, { on := 3, ground := Go.Ground.phase }, { on := 4, ground := Go.Ground.phase }, { on := 5, ground := Go.Ground.phase }, { on := 6, ground := Go.Ground.phase }, { on := 7, ground := Go.Ground.textOnly Go.Departure.lateStores }, { on := 8, ground := Go.Ground.textOnly Go.Departure.lateStores }, { on := 9, ground := Go.Ground.textOnly Go.Departure.lateStores }, { on := 10, ground := Go.Ground.textOnly Go.Departure.lateStores }, { on := 11, ground := Go.Ground.textOnly Go.Departure.lateStores }, { on := 12, ground := Go.Ground.textOnly Go.Departure.lateStores }, { on := 13, ground := Go.Ground.textOnly Go.Departure.lateStoresUnsure }], guard := none }) (by kernel_rfl) (by rfl) rfl (fun K hK => ?_)
                go_simp
                refine hK.out _ _ ?_
                clear hK K
                try simp only [Act.put, List.setIfInBounds_toArray, List.set_cons_zero, List.set_cons_succ]
                refine wpAnyT_last (i := 16) (o := { dst := some 35, op := Go.Op.fieldAddr 25 (Go.Operand.tmp 5) 4, type := 0, pos := "low.go:352", after := #[{ on := 0, ground := Go.Ground.phase }, { on := 1, ground := Go.Ground.phase }, { on := 2, ground := Go.Ground.phase }, { on := 3, ground := Go.Ground.phase }, { on := 4, ground := Go.Ground.phase }, { on := 5, ground := Go.Ground.phase }, { on := 6, ground := Go.Ground.phase }, { on := 7, ground := Go.Ground.phase }, { on := 8, ground := Go.Ground.phase }, { on := 9, ground := Go.Ground.phase }, { on := 10, ground := Go.Ground.phase }, { on := 11, ground := Go.Ground.phase }, { on := 12, ground := Go.Ground.phase }, { on := 13, ground := Go.Ground.phase }, { on := 14, ground := Go.Ground.phase }, { on := 15, ground := Go.Ground.phase }], guard := none }) (by kernel_rfl) (by rfl) rfl (fun K hK => ?_)
                go_simp
                refine hK.out _ _ ?_
                clear hK K
                try simp only [Act.put, List.setIfInBounds_toArray, List.set_cons_zero, List.set_cons_succ]
                refine wpAnyT_last (i := 17) (o := { dst := none, op := Go.Op.store 23 (Go.Operand.tmp 35) (Go.Operand.tmp 33), type := 0, pos := "low.go:352", after := #[{ on := 16, ground := Go.Ground.data }, { on := 13, ground := Go.Ground.data }, { on := 15, ground := Go.Ground.chain }, { on := 0, ground := Go.Ground.phase }, { on := 1, ground := Go.Ground.phase }, { on := 2, ground := Go.Ground.phase }, { on := 3, ground := Go.Ground.phase }, { on := 4, ground := Go.Ground.phase }, { on := 5, ground := Go.Ground.phase }, { on := 6, ground := Go.Ground.phase }, { on := 7, ground := Go.Ground.phase }, { on := 8, ground := Go.Ground.phase }, { on := 9, ground := Go.Ground.phase }, { on := 10, ground := Go.Ground.phase }, { on := 11, ground := Go.Ground.phase }, { on := 12, ground := Go.Ground.phase }, { on := 13, ground := Go.Ground.phase }, { on := 14, ground := Go.Ground.phase }, { on := 15, ground := Go.Ground.phase }], guard := none }) (by kernel_rfl) (by rfl) rfl (fun K hK => ?_)
                go_simp
                refine hK.out _ _ ?_
                clear hK K
                try simp only [Act.put, List.setIfInBounds_toArray, List.set_cons_zero, List.set_cons_succ]
                refine wpAnyT_done (by kernel_rfl) ?_ _
                go_wp2_with fail
                go_roundg (t.keys.length - (k + 1))
                case measure => rw [GK.out]; omega
                case rel => exact ⟨k + 1, hlt, rfl, by go_num, wo_more HL.out hlt hlt' HNE.out HPS.out HE.out (by have h9 := OEc.out; simp only [List.length_map] at h9; exact h9)⟩
              exact AllReadyT.nil
            exact AllReadyT.nil
          exact AllReadyT.nil
        exact AllReadyT.nil
    · have hke : k = t.keys.length := by omega
      subst hke
      have d1 : ¬ (t.keys.length : Int) < (t.keys.length : Int) := by omega
      obtain ⟨ps, kv, lv, i1, i2, i3, i4⟩ := II.out
      have i5 : ps = woF key (t.keys.zip t.l) := by
        rw [← i3, List.drop_eq_nil_of_le (by simp; omega)]; simp [woF]
      have hpl : ps.length ≤ 100000 := by
        have h1 : (woF key (t.keys.zip t.l)).length ≤ (t.keys.zip t.l).length := List.length_filter_le _ _
        rw [i5]; simp at h1; omega
      have hmk : ∀ x ∈ ps.map Prod.fst, x.length ≤ maxLen := by
        intro x hx
        rw [List.mem_map] at hx
        obtain ⟨p, hp, rfl⟩ := hx
        rw [i5] at hp
        have := (List.of_mem_zip (List.mem_filter.1 hp).1).1
        exact VV.out.2.mem _ this
      have M := hidI (i2.made hmk (by rw [List.length_map]; omega) (by rw [List.length_map]; omega))
      have E : Hid ((⟨5, 0, [], ps.map Prod.fst, ps.map Prod.snd⟩ : V) = withoutV t key) := hidI (by rw [i5]; exact wo_without OB.out key)
      have gs := set5_gb wr (w.heap.size + 1) (.int .i64 5) (.int .i64 0) (.string ⟨#[]⟩) kv lv
      have ZB : Hid _ := hidI (i1.2.1.2.set (.int .i64 5) (.int .i64 0) (.string ⟨#[]⟩) kv lv)
      have Z : Hid (VIs (set5 wr (w.heap.size + 1) (.int .i64 5) (.int .i64 0) (.string ⟨#[]⟩) kv lv) (okN ok w.heap.size) (d + 1) (withoutV t key) (.agg #[.int .i64 5, .int .i64 0, .string ⟨#[]⟩, kv, lv]) ∧ Below w.heap.size w (set5 wr (w.heap.size + 1) (.int .i64 5) (.int .i64 0) (.string ⟨#[]⟩) kv lv)) := hidI (by
        have hs : OE w ok (w.heap.size + 2 + 1) d (ps.map Prod.fst) (ps.map Prod.snd) kv lv (set5 wr (w.heap.size + 1) (.int .i64 5) (.int .i64 0) (.string ⟨#[]⟩) kv lv) := ((((i2.set (by omega) (by omega) _ _).set (by omega) (by omega) _ _).set (by omega) (by omega) _ _).set (by omega) (by omega) _ _).set (by omega) (by omega) _ _
        refine ⟨?_, hs.below⟩
        rw [← E.out]
        exact hs.made hmk (by rw [List.length_map]; omega) (by rw [List.length_map]; omega))
      obtain ⟨n1, n2, n3, n4, hk1, hk2⟩ := i2.forms
      rw [List.length_map] at hk1 hk2
      subst hk1
      subst hk2
      obtain ⟨o0, o1, o2, o3, o4, -⟩ := i1.1.c
      obtain ⟨z0, z1, z2, z3, z4, z5, z6, z7, z8, z9⟩ := i1.2.1.2.c
      clear gs i1 i2 i3 i4 i5 hpl hmk
      go_wp2_with fail
      obtain ⟨q0, q1, q2, q3, q4, -⟩ := ZB.out.c
      refine bodyPost_ret (v := .agg #[.int .i64 5, .int .i64 0, .string ⟨#[]⟩, .slice n1 ps.length n2, .slice n3 ps.length n4]) ?_ rfl ?_
      · simp only [set5] at q0 q1 q2 q3 q4
        simp [results, Tryd.results55, go_sem, q0, q1, q2, q3, q4]
      · exact ⟨_, rfl, Z.out.1, Z.out.2⟩
theorem rwithout_is (w : World) (ok : Nat → Prop) (t : V) (v : Value) (key : List UInt8) (h : In w ok t v) (ho : Ob t) (hl : t.l.length ≤ 100000) :
    Calls Tryd.prog 55 #[v, str key] w fun e w' => ∃ r, e = .returned r ∧ In w' (okN ok w.heap.size) (withoutV t key) r ∧ Below w.heap.size w w' := by
  obtain ⟨d, h⟩ := h.at
  refine (rwithout_at w ok d t v key h ho hl).mono ?_
  rintro e w' ⟨r, rfl, hr, hb⟩
  exact ⟨r, rfl, hr.is, hb⟩
end Go.Proofs.YtaifciobaapehaaDoor

/- A region that draws its order: what yields its value in whatever world is taken first, whatever waits. -/
set_option linter.unusedSimpArgs false
set_option linter.unusedVariables false
namespace Go.Proofs.YtaifciobaapehaaDoor
open Go

section
variable {P : Program} {ops : Array Oper} {Q : Exit → Act → World → Prop} {md : Region.Mode} {S : World → Prop} {T : List Nat}

theorem until_mono {listed : Array Bool} {i : Nat} {T : List Nat} (h : untilB T (listed.setIfInBounds i true) = true) : untilB T listed = true := by
  unfold untilB at h ⊢
  rw [List.all_eq_true] at h ⊢
  intro t ht
  have h0 := h t ht
  by_cases e : i = t
  · subst e
    by_cases hs : i < listed.size
    · simp [Array.getD, hs] at h0
    · simp [Array.getD, hs] at h0
  · rw [getD_set_ne true e] at h0; exact h0
theorem until_set {listed : Array Bool} {i : Nat} {T : List Nat} (hi : i ∉ T) (h : untilB T listed = true) : untilB T (listed.setIfInBounds i true) = true := by
  unfold untilB at h ⊢
  rw [List.all_eq_true] at h ⊢
  intro t ht
  have e : i ≠ t := fun e => hi (e ▸ ht)
  rw [getD_set_ne true e]; exact h t ht
/- What yields its value in whatever world is taken first whatever waits. -/
theorem wpAnyT_firstY {i : Nat} {oi : Oper} {v : Value} (hi : ops[i]? = some oi) (hsel : ∀ (j : Nat) (o : Oper) cs b, ops[j]? = some o → o.op ≠ .select cs b)
    (hQ : ∀ c a w, Q (.panic c) (a.put oi.dst v) w → Q (.panic c) a w) (hiT : i ∉ T) :
    ∀ (fuel : Nat) (listed : Array Bool) (a : Act) (w : World),
      (∀ j oj, ops[j]? = some oj → j ≠ i → listed.getD j true = false → (∀ e ∈ oj.after, Region.binds md e = true → e.on ≠ i) → oi.apart ops oj = true) →
      i ∈ Region.ready md ops listed → Yields P ops oi v a → (untilB T listed = true → S w) →
      wpAnyT P md ops Q S T fuel (listed.setIfInBounds i true) (a.put oi.dst v) w → wpAnyT P md ops Q S T (fuel + 1) listed a w := by
  intro fuel
  induction fuel with
  | zero =>
    intro listed a w _ hr hy hS H
    refine ⟨fun h => (by rw [h] at hr; cases hr), fun j hj => ?_⟩
    by_cases hji : j = i
    · subst hji; exact hy.wpOp hi ⟨fun h => hS (until_mono h), H⟩
    · have := ready_mono hj hji
      rw [H.1] at this
      cases this
  | succ fuel ih =>
    intro listed a w hfree hr hy hS H
    refine ⟨fun h => (by rw [h] at hr; cases hr), fun j hj => ?_⟩
    by_cases hji : j = i
    · subst hji; exact hy.wpOp hi ⟨fun h => hS (until_mono h), H⟩
    · have h1 := H.2 j (ready_mono hj hji)
      obtain ⟨hjun, oj, hoj, hall⟩ := mem_ready.1 hj
      have hnot : ∀ e ∈ oj.after, Region.binds md e = true → e.on ≠ i := fun e he hb heq => by
        have h1 := hall e he hb
        have h0 := (mem_ready.1 hr).1
        rw [heq] at h1
        rcases Nat.lt_or_ge i listed.size with h' | h'
        · simp [h'] at h0 h1; rw [h0] at h1; cases h1
        · simp [Array.getElem?_eq_none h'] at h1
      have h2 := wpOp_put hoj (hfree j oj hoj hji hjun hnot) (fun cs b => hsel i oi cs b hi) (fun cs b => hsel j oj cs b hoj) hQ hy h1
      have hfree' : ∀ k ok, ops[k]? = some ok → k ≠ i → (listed.setIfInBounds j true).getD k true = false →
          (∀ e ∈ ok.after, Region.binds md e = true → e.on ≠ i) → oi.apart ops ok = true := fun k ok hk hki hun hno => by
        refine hfree k ok hk hki ?_ hno
        by_cases hjk : j = k
        · subst hjk; exact hjun
        · rw [getD_set_ne true hjk] at hun; exact hun
      refine wpOp_mono (fun a' w' h3 => ?_) h2
      have hs : untilB T (listed.setIfInBounds j true) = true → S w' := fun h => h3.2.1 (by rw [Array.setIfInBounds_comm _ _ (Ne.symm hji)]; exact until_set hiT h)
      refine ⟨hs, ih (listed.setIfInBounds j true) a' w' hfree' (ready_mono hr (Ne.symm hji)) h3.1 hs ?_⟩
      rw [Array.setIfInBounds_comm _ _ hji]
      exact h3.2.2
theorem wpAnyT_takeY {i : Nat} {oi : Oper} {v : Value} {fuel : Nat} {listed : Array Bool} {a : Act} {w : World} (hi : ops[i]? = some oi)
    (hs : Region.noSelect ops = true) (hf : Region.free md ops listed i = true) (hr : (Region.ready md ops listed).contains i = true) (hT : T.contains i = false)
    (hQ : ∀ c a w, Q (.panic c) (a.put oi.dst v) w → Q (.panic c) a w) (hy : Yields P ops oi v a) (hS : S w)
    (h : wpAnyT P md ops Q S T fuel (listed.setIfInBounds i true) (a.put oi.dst v) w) : wpAnyT P md ops Q S T (fuel + 1) listed a w :=
  wpAnyT_firstY hi (Region.noSelect_spec hs) hQ (by simpa using hT) fuel listed a w (Region.free_spec hi hf) (by simpa using hr) hy (fun _ => hS) h
end
end Go.Proofs.YtaifciobaapehaaDoor

/- What alter of package stairwellref does at the end of a path. -/
set_option linter.unusedSimpArgs false
set_option linter.unusedVariables false
namespace Go.Proofs.YtaifciobaapehaaDoor
open Go.RowKit

/- The boxes of alter. -/
def KA (w : World) (t x : V) (a1 a2 a7 a8 : Option Addr) (c1 c2 c7 c8 : Nat) (W : World) : Prop := BoxIs W w.heap.size (.int .i64 t.kind) (.int .i64 t.n) (.string ⟨t.s.toArray⟩) (.slice a1 t.keys.length c1) (.slice a2 t.l.length c2) ∧ BoxIs W (w.heap.size + 1) (.int .i64 x.kind) (.int .i64 x.n) (.string ⟨x.s.toArray⟩) (.slice a7 x.keys.length c7) (.slice a8 x.l.length c8) ∧ BoxIs W (w.heap.size + 2) (.int .i64 0) (.int .i64 0) (.string ⟨#[]⟩) (.slice none 0 0) (.slice none 0 0) ∧ Below w.heap.size w W
theorem KA.bel {w W W' : World} {t x : V} {a1 a2 a7 a8 : Option Addr} {c1 c2 c7 c8 : Nat} (h : KA w t x a1 a2 a7 a8 c1 c2 c7 c8 W) (hb : Below W.heap.size W W') : KA w t x a1 a2 a7 a8 c1 c2 c7 c8 W' := ⟨box_bel hb h.1, box_bel hb h.2.1, box_bel hb h.2.2.1, bel_trans h.2.2.2 hb⟩
theorem KA.big {w W : World} {t x : V} {a1 a2 a7 a8 : Option Addr} {c1 c2 c7 c8 : Nat} (h : KA w t x a1 a2 a7 a8 c1 c2 c7 c8 W) : w.heap.size + 2 < W.heap.size := h.2.2.1.lt
theorem KA.grown {w W W' : World} {t x : V} {a1 a2 a7 a8 : Option Addr} {c1 c2 c7 c8 : Nat} {r : Option Nat} (h : KA w t x a1 a2 a7 a8 c1 c2 c7 c8 W) (hg : W.grownBy W' r) (hr : ∀ k, r = some k → w.heap.size + 3 ≤ k) : KA w t x a1 a2 a7 a8 c1 c2 c7 c8 W' := by
  have hbig := h.big
  refine ⟨h.1.grown hg (fun e => by have := hr _ e.symm; omega), h.2.1.grown hg (fun e => by have := hr _ e.symm; omega), h.2.2.1.grown hg (fun e => by have := hr _ e.symm; omega), ?_⟩
  have hb := h.2.2.2
  exact ⟨hg.os.trans hb.os, hg.tape.trans hb.tape, hg.output.trans hb.output, Nat.le_trans hb.size hg.size, fun j hj => (hg.block j (by omega) (fun e => by have := hr _ e.symm; omega)).trans (hb.block j hj)⟩
/- What a call answered, put into the result's box. -/
theorem put_out {w w1 w9 : World} {ok : Nat → Prop} {t x z : V} {a1 a2 a7 a8 b7 b8 : Option Addr} {c1 c2 c7 c8 d7 d8 C : Nat} (h : KA w t x a1 a2 a7 a8 c1 c2 c7 c8 w9) (hy : In w9 (okN (lowN ok w.heap.size C) w1.heap.size) z (.agg #[.int .i64 z.kind, .int .i64 z.n, .string ⟨z.s.toArray⟩, .slice b7 z.keys.length d7, .slice b8 z.l.length d8])) (hC : w.heap.size + 2 < C) (h1 : w.heap.size + 2 < w1.heap.size) :
    Below w.heap.size w (set5 w9 (w.heap.size + 2) (.int .i64 z.kind) (.int .i64 z.n) (.string ⟨z.s.toArray⟩) (.slice b7 z.keys.length d7) (.slice b8 z.l.length d8)) ∧ In (set5 w9 (w.heap.size + 2) (.int .i64 z.kind) (.int .i64 z.n) (.string ⟨z.s.toArray⟩) (.slice b7 z.keys.length d7) (.slice b8 z.l.length d8)) (okN ok w.heap.size) z (.agg #[.int .i64 z.kind, .int .i64 z.n, .string ⟨z.s.toArray⟩, .slice b7 z.keys.length d7, .slice b8 z.l.length d8]) ∧ BoxIs (set5 w9 (w.heap.size + 2) (.int .i64 z.kind) (.int .i64 z.n) (.string ⟨z.s.toArray⟩) (.slice b7 z.keys.length d7) (.slice b8 z.l.length d8)) (w.heap.size + 2) (.int .i64 z.kind) (.int .i64 z.n) (.string ⟨z.s.toArray⟩) (.slice b7 z.keys.length d7) (.slice b8 z.l.length d8) := by
  have g1 := set5_gb w9 (w.heap.size + 2) (.int .i64 z.kind) (.int .i64 z.n) (.string ⟨z.s.toArray⟩) (.slice b7 z.keys.length d7) (.slice b8 z.l.length d8)
  refine ⟨bel_set5 h.2.2.2 (by omega) _ _ _ _ _, (hy.grown g1 ?_).weak ?_, h.2.2.1.set _ _ _ _ _⟩
  · intro k hk e
    rcases hk with hk | hk
    · exact lowN_ne (by omega) (by omega) k hk e
    · omega
  · intro k hk
    rcases hk with hk | hk
    · exact lowN_out (by omega) k hk
    · exact .inr (by omega)
attribute [local go_sem ↓] Go.wp_at_zero Go.wp_at_succ
set_option maxRecDepth 100000 in
set_option maxHeartbeats 40000000 in
theorem alter1_other (w : World) (ok oks : Nat → Prop) (t x : V) (v xv nv : Value) (s : List UInt8) (h : In w ok t v) (hx : In w ok x xv) (hn : Nice t) (hnv : StrsAre w oks [s] nv) (h5 : t.kind ≠ 5) (h4 : t.kind ≠ 4) :
    Calls Tryd.prog 31 #[.int .i64 1, v, nv, xv] w fun e w' => ∃ r, e = .returned (.tuple #[r, .int .i64 3]) ∧ Below w.heap.size w w' ∧ In w' (okN ok w.heap.size) (t) r := by
  obtain ⟨nb, no, nc, rfl, n1, n2, n3, n4⟩ := strs_head hnv
  simp only [List.length_nil, Nat.zero_add] at n1 ⊢
  have H := hidI h.low
  have HX := hidI hx.low
  have HN := hidI hn
  obtain ⟨l1, l2, l3⟩ := h.lens
  obtain ⟨a1, a2, c1, c2, rfl⟩ := h.form
  obtain ⟨a7, a8, c7, c8, rfl⟩ := hx.form
  have hsz := nice_len hn
  have g0 : ∀ o1 o2 o3, (((w.alloc o1).alloc o2).alloc o3).cell? ⟨nb, no, none⟩ = some (.string ⟨s.toArray⟩) := fun o1 o2 o3 => cell_bel (bel_trans (bel_trans (bel_alloc _ _) (bel_alloc _ _)) (bel_alloc _ o3)) n4
  have con1 : Hid (∀ W, W.heap = (((w.alloc (.cells #[.int .i64 t.kind, .int .i64 t.n, .string ⟨t.s.toArray⟩, .slice a1 t.keys.length c1, .slice a2 t.l.length c2] 25)).alloc (.cells #[.int .i64 x.kind, .int .i64 x.n, .string ⟨x.s.toArray⟩, .slice a7 x.keys.length c7, .slice a8 x.l.length c8] 25)).alloc (.cells #[.int .i64 0, .int .i64 0, .string ⟨#[]⟩, .slice none 0 0, .slice none 0 0] 25)).heap → W.os = w.os → W.tape = w.tape → W.output = w.output → Calls Tryd.prog 28 #[.agg #[.int .i64 t.kind, .int .i64 t.n, .string ⟨t.s.toArray⟩, .slice a1 t.keys.length c1, .slice a2 t.l.length c2], .string ⟨s.toArray⟩] W fun e w' => e = .returned (.int .i64 (optI (atV t s))) ∧ KA w t x a1 a2 a7 a8 c1 c2 c7 c8 w') := by
    intro W e1 e2 e3 e4
    have hbW := bel_of3 e1 e2 e3 e4
    refine (rkid_is W (fun k => ok k ∧ k < w.heap.size) t _ s (H.out.bel hbW) (fun h5 => by have := nice_paired HN.out h5; simp only [pairedV, Bool.and_eq_true, decide_eq_true_eq] at this; omega)).mono ?_
    rintro e w1 ⟨rfl, hb1⟩
    exact ⟨rfl, box_bel hb1 (by unfold BoxIs; rw [e1]; exact h3a w _ _ _), box_bel hb1 (by unfold BoxIs; rw [e1]; exact h3b w _ _ _), box_bel hb1 (by unfold BoxIs; rw [e1]; exact h3c w _ _ _), bel_trans hbW hb1⟩
  have N4 := hidI n4
  have qa : (t.kind == 5) = false := by simp [h5]
  have qb : (t.kind == 4) = false := by simp [h4]
  clear h hx hn n4 hnv
  have e11 : ¬ (1 : Int) < 1 := by omega
  go_enter Tryd.func31, Tryd.ntmps31
  go_upto_region 1 with fail
  go_cut [10] (fun p wc => p = .int .i64 (optI (atV t s)) ∧ KA w t x a1 a2 a7 a8 c1 c2 c7 c8 wc)
  case first =>
    go_region_with ((go_at_call 28; refine (con1.out _ (by rfl) (by rfl) (by rfl) (by rfl)).mono ?_; rintro e w1 ⟨rfl, hfin⟩; have FIN := hidI hfin; clear hfin))
    all_goals
      go_wp2_with fail
      go_meet
      case rel => exact ⟨rfl, FIN.out⟩
  case rest =>
    obtain ⟨wa, hwa⟩ : ∃ wa, wa = wc := ⟨_, rfl⟩
    subst hwa
    obtain ⟨rfl, k0⟩ := hcut
    have K := hidI k0
    clear con1 g0 k0
    have hk3 := K.out.big
    obtain ⟨p0, p1, p2, p3, p4, -⟩ := K.out.1.c
    obtain ⟨q0, q1, q2, q3, q4, -⟩ := K.out.2.1.c
    obtain ⟨x0, x1, x2, x3, x4, y0, y1, y2, y3, y4⟩ := K.out.2.2.1.c
    have Z : Hid (_ ∧ _) := hidI (set_out (C := wa.heap.size) (g := w.heap.size + 2) ((H.out.bel K.out.2.2.2).weak (lowN_low (C := wa.heap.size))) K.out.2.2.2 (by omega) K.out.2.2.1.lt)
    have ZB : Hid _ := hidI (K.out.2.2.1.set (.int .i64 t.kind) (.int .i64 t.n) (.string ⟨t.s.toArray⟩) (.slice a1 t.keys.length c1) (.slice a2 t.l.length c2))
    go_wp2_with fail
    obtain ⟨z0, z1, z2, z3, z4, -⟩ := ZB.out.c
    refine bodyPost_ret (v := .tuple #[.agg #[.int .i64 t.kind, .int .i64 t.n, .string ⟨t.s.toArray⟩, .slice a1 t.keys.length c1, .slice a2 t.l.length c2], .int .i64 3]) ?_ rfl ?_
    · simp only [set5] at z0 z1 z2 z3 z4
      simp [results, Tryd.results31, go_sem, z0, z1, z2, z3, z4]
    · exact ⟨_, rfl, Z.out.1, Z.out.2⟩
set_option maxRecDepth 100000 in
set_option maxHeartbeats 40000000 in
theorem alter2_none (w : World) (ok oks : Nat → Prop) (t x : V) (v xv nv : Value) (s : List UInt8) (h : In w ok t v) (hx : In w ok x xv) (hn : Nice t) (hnv : StrsAre w oks [s] nv) (ha : atV t s = none) :
    Calls Tryd.prog 31 #[.int .i64 2, v, nv, xv] w fun e w' => ∃ r, e = .returned (.tuple #[r, .int .i64 3]) ∧ Below w.heap.size w w' ∧ In w' (okN ok w.heap.size) (t) r := by
  obtain ⟨nb, no, nc, rfl, n1, n2, n3, n4⟩ := strs_head hnv
  simp only [List.length_nil, Nat.zero_add] at n1 ⊢
  have H := hidI h.low
  have HX := hidI hx.low
  have HN := hidI hn
  obtain ⟨l1, l2, l3⟩ := h.lens
  obtain ⟨a1, a2, c1, c2, rfl⟩ := h.form
  obtain ⟨a7, a8, c7, c8, rfl⟩ := hx.form
  have hsz := nice_len hn
  have g0 : ∀ o1 o2 o3, (((w.alloc o1).alloc o2).alloc o3).cell? ⟨nb, no, none⟩ = some (.string ⟨s.toArray⟩) := fun o1 o2 o3 => cell_bel (bel_trans (bel_trans (bel_alloc _ _) (bel_alloc _ _)) (bel_alloc _ o3)) n4
  have con1 : Hid (∀ W, W.heap = (((w.alloc (.cells #[.int .i64 t.kind, .int .i64 t.n, .string ⟨t.s.toArray⟩, .slice a1 t.keys.length c1, .slice a2 t.l.length c2] 25)).alloc (.cells #[.int .i64 x.kind, .int .i64 x.n, .string ⟨x.s.toArray⟩, .slice a7 x.keys.length c7, .slice a8 x.l.length c8] 25)).alloc (.cells #[.int .i64 0, .int .i64 0, .string ⟨#[]⟩, .slice none 0 0, .slice none 0 0] 25)).heap → W.os = w.os → W.tape = w.tape → W.output = w.output → Calls Tryd.prog 28 #[.agg #[.int .i64 t.kind, .int .i64 t.n, .string ⟨t.s.toArray⟩, .slice a1 t.keys.length c1, .slice a2 t.l.length c2], .string ⟨s.toArray⟩] W fun e w' => e = .returned (.int .i64 (optI (atV t s))) ∧ KA w t x a1 a2 a7 a8 c1 c2 c7 c8 w') := by
    intro W e1 e2 e3 e4
    have hbW := bel_of3 e1 e2 e3 e4
    refine (rkid_is W (fun k => ok k ∧ k < w.heap.size) t _ s (H.out.bel hbW) (fun h5 => by have := nice_paired HN.out h5; simp only [pairedV, Bool.and_eq_true, decide_eq_true_eq] at this; omega)).mono ?_
    rintro e w1 ⟨rfl, hb1⟩
    exact ⟨rfl, box_bel hb1 (by unfold BoxIs; rw [e1]; exact h3a w _ _ _), box_bel hb1 (by unfold BoxIs; rw [e1]; exact h3b w _ _ _), box_bel hb1 (by unfold BoxIs; rw [e1]; exact h3c w _ _ _), bel_trans hbW hb1⟩
  have N4 := hidI n4
  have AT := hidI ha
  clear ha
  clear h hx hn n4 hnv
  have e11 : ¬ (1 : Int) < 1 := by omega
  go_enter Tryd.func31, Tryd.ntmps31
  go_upto_region 1 with fail
  go_cut [10] (fun p wc => p = .int .i64 (optI (atV t s)) ∧ KA w t x a1 a2 a7 a8 c1 c2 c7 c8 wc)
  case first =>
    go_region_with ((go_at_call 28; refine (con1.out _ (by rfl) (by rfl) (by rfl) (by rfl)).mono ?_; rintro e w1 ⟨rfl, hfin⟩; have FIN := hidI hfin; clear hfin))
    all_goals
      go_wp2_with fail
      go_meet
      case rel => exact ⟨rfl, FIN.out⟩
  case rest =>
    obtain ⟨wa, hwa⟩ : ∃ wa, wa = wc := ⟨_, rfl⟩
    subst hwa
    obtain ⟨rfl, k0⟩ := hcut
    have K := hidI k0
    clear con1 g0 k0
    have hk3 := K.out.big
    obtain ⟨p0, p1, p2, p3, p4, -⟩ := K.out.1.c
    obtain ⟨q0, q1, q2, q3, q4, -⟩ := K.out.2.1.c
    obtain ⟨x0, x1, x2, x3, x4, y0, y1, y2, y3, y4⟩ := K.out.2.2.1.c
    have eo : optI none = -1 := rfl
    rw [AT.out, eo]
    clear eo
    have Z : Hid (_ ∧ _) := hidI (set_out (C := wa.heap.size) (g := w.heap.size + 2) ((H.out.bel K.out.2.2.2).weak (lowN_low (C := wa.heap.size))) K.out.2.2.2 (by omega) K.out.2.2.1.lt)
    have ZB : Hid _ := hidI (K.out.2.2.1.set (.int .i64 t.kind) (.int .i64 t.n) (.string ⟨t.s.toArray⟩) (.slice a1 t.keys.length c1) (.slice a2 t.l.length c2))
    go_wp2_with fail
    obtain ⟨z0, z1, z2, z3, z4, -⟩ := ZB.out.c
    refine bodyPost_ret (v := .tuple #[.agg #[.int .i64 t.kind, .int .i64 t.n, .string ⟨t.s.toArray⟩, .slice a1 t.keys.length c1, .slice a2 t.l.length c2], .int .i64 3]) ?_ rfl ?_
    · simp only [set5] at z0 z1 z2 z3 z4
      simp [results, Tryd.results31, go_sem, z0, z1, z2, z3, z4]
    · exact ⟨_, rfl, Z.out.1, Z.out.2⟩
set_option maxRecDepth 100000 in
set_option maxHeartbeats 40000000 in
theorem alter3_none (w : World) (ok oks : Nat → Prop) (t x : V) (v xv nv : Value) (s : List UInt8) (h : In w ok t v) (hx : In w ok x xv) (hn : Nice t) (hnv : StrsAre w oks [s] nv) (ha : atV t s = none) :
    Calls Tryd.prog 31 #[.int .i64 3, v, nv, xv] w fun e w' => ∃ r, e = .returned (.tuple #[r, .int .i64 3]) ∧ Below w.heap.size w w' ∧ In w' (okN ok w.heap.size) (t) r := by
  obtain ⟨nb, no, nc, rfl, n1, n2, n3, n4⟩ := strs_head hnv
  simp only [List.length_nil, Nat.zero_add] at n1 ⊢
  have H := hidI h.low
  have HX := hidI hx.low
  have HN := hidI hn
  obtain ⟨l1, l2, l3⟩ := h.lens
  obtain ⟨a1, a2, c1, c2, rfl⟩ := h.form
  obtain ⟨a7, a8, c7, c8, rfl⟩ := hx.form
  have hsz := nice_len hn
  have g0 : ∀ o1 o2 o3, (((w.alloc o1).alloc o2).alloc o3).cell? ⟨nb, no, none⟩ = some (.string ⟨s.toArray⟩) := fun o1 o2 o3 => cell_bel (bel_trans (bel_trans (bel_alloc _ _) (bel_alloc _ _)) (bel_alloc _ o3)) n4
  have con1 : Hid (∀ W, W.heap = (((w.alloc (.cells #[.int .i64 t.kind, .int .i64 t.n, .string ⟨t.s.toArray⟩, .slice a1 t.keys.length c1, .slice a2 t.l.length c2] 25)).alloc (.cells #[.int .i64 x.kind, .int .i64 x.n, .string ⟨x.s.toArray⟩, .slice a7 x.keys.length c7, .slice a8 x.l.length c8] 25)).alloc (.cells #[.int .i64 0, .int .i64 0, .string ⟨#[]⟩, .slice none 0 0, .slice none 0 0] 25)).heap → W.os = w.os → W.tape = w.tape → W.output = w.output → Calls Tryd.prog 28 #[.agg #[.int .i64 t.kind, .int .i64 t.n, .string ⟨t.s.toArray⟩, .slice a1 t.keys.length c1, .slice a2 t.l.length c2], .string ⟨s.toArray⟩] W fun e w' => e = .returned (.int .i64 (optI (atV t s))) ∧ KA w t x a1 a2 a7 a8 c1 c2 c7 c8 w') := by
    intro W e1 e2 e3 e4
    have hbW := bel_of3 e1 e2 e3 e4
    refine (rkid_is W (fun k => ok k ∧ k < w.heap.size) t _ s (H.out.bel hbW) (fun h5 => by have := nice_paired HN.out h5; simp only [pairedV, Bool.and_eq_true, decide_eq_true_eq] at this; omega)).mono ?_
    rintro e w1 ⟨rfl, hb1⟩
    exact ⟨rfl, box_bel hb1 (by unfold BoxIs; rw [e1]; exact h3a w _ _ _), box_bel hb1 (by unfold BoxIs; rw [e1]; exact h3b w _ _ _), box_bel hb1 (by unfold BoxIs; rw [e1]; exact h3c w _ _ _), bel_trans hbW hb1⟩
  have N4 := hidI n4
  have AT := hidI ha
  clear ha
  clear h hx hn n4 hnv
  have e11 : ¬ (1 : Int) < 1 := by omega
  go_enter Tryd.func31, Tryd.ntmps31
  go_upto_region 1 with fail
  go_cut [10] (fun p wc => p = .int .i64 (optI (atV t s)) ∧ KA w t x a1 a2 a7 a8 c1 c2 c7 c8 wc)
  case first =>
    go_region_with ((go_at_call 28; refine (con1.out _ (by rfl) (by rfl) (by rfl) (by rfl)).mono ?_; rintro e w1 ⟨rfl, hfin⟩; have FIN := hidI hfin; clear hfin))
    all_goals
      go_wp2_with fail
      go_meet
      case rel => exact ⟨rfl, FIN.out⟩
  case rest =>
    obtain ⟨wa, hwa⟩ : ∃ wa, wa = wc := ⟨_, rfl⟩
    subst hwa
    obtain ⟨rfl, k0⟩ := hcut
    have K := hidI k0
    clear con1 g0 k0
    have hk3 := K.out.big
    obtain ⟨p0, p1, p2, p3, p4, -⟩ := K.out.1.c
    obtain ⟨q0, q1, q2, q3, q4, -⟩ := K.out.2.1.c
    obtain ⟨x0, x1, x2, x3, x4, y0, y1, y2, y3, y4⟩ := K.out.2.2.1.c
    have eo : optI none = -1 := rfl
    rw [AT.out, eo]
    clear eo
    have Z : Hid (_ ∧ _) := hidI (set_out (C := wa.heap.size) (g := w.heap.size + 2) ((H.out.bel K.out.2.2.2).weak (lowN_low (C := wa.heap.size))) K.out.2.2.2 (by omega) K.out.2.2.1.lt)
    have ZB : Hid _ := hidI (K.out.2.2.1.set (.int .i64 t.kind) (.int .i64 t.n) (.string ⟨t.s.toArray⟩) (.slice a1 t.keys.length c1) (.slice a2 t.l.length c2))
    go_wp2_with fail
    obtain ⟨z0, z1, z2, z3, z4, -⟩ := ZB.out.c
    refine bodyPost_ret (v := .tuple #[.agg #[.int .i64 t.kind, .int .i64 t.n, .string ⟨t.s.toArray⟩, .slice a1 t.keys.length c1, .slice a2 t.l.length c2], .int .i64 3]) ?_ rfl ?_
    · simp only [set5] at z0 z1 z2 z3 z4
      simp [results, Tryd.results31, go_sem, z0, z1, z2, z3, z4]
    · exact ⟨_, rfl, Z.out.1, Z.out.2⟩
set_option maxRecDepth 100000 in
set_option maxHeartbeats 40000000 in
theorem alter3_some (w : World) (ok oks : Nat → Prop) (t x : V) (v xv nv : Value) (s : List UInt8) (h : In w ok t v) (hx : In w ok x xv) (hn : Nice t) (hnv : StrsAre w oks [s] nv) (i : Nat) (ha : atV t s = some i) :
    Calls Tryd.prog 31 #[.int .i64 3, v, nv, xv] w fun e w' => ∃ r, e = .returned (.tuple #[r, .int .i64 0]) ∧ Below w.heap.size w w' ∧ In w' (okN ok w.heap.size) ({ t with l := t.l.take i ++ x :: t.l.drop (i + 1) }) r := by
  obtain ⟨nb, no, nc, rfl, n1, n2, n3, n4⟩ := strs_head hnv
  simp only [List.length_nil, Nat.zero_add] at n1 ⊢
  have H := hidI h.low
  have HX := hidI hx.low
  have HN := hidI hn
  obtain ⟨l1, l2, l3⟩ := h.lens
  obtain ⟨a1, a2, c1, c2, rfl⟩ := h.form
  obtain ⟨a7, a8, c7, c8, rfl⟩ := hx.form
  have hsz := nice_len hn
  have g0 : ∀ o1 o2 o3, (((w.alloc o1).alloc o2).alloc o3).cell? ⟨nb, no, none⟩ = some (.string ⟨s.toArray⟩) := fun o1 o2 o3 => cell_bel (bel_trans (bel_trans (bel_alloc _ _) (bel_alloc _ _)) (bel_alloc _ o3)) n4
  have con1 : Hid (∀ W, W.heap = (((w.alloc (.cells #[.int .i64 t.kind, .int .i64 t.n, .string ⟨t.s.toArray⟩, .slice a1 t.keys.length c1, .slice a2 t.l.length c2] 25)).alloc (.cells #[.int .i64 x.kind, .int .i64 x.n, .string ⟨x.s.toArray⟩, .slice a7 x.keys.length c7, .slice a8 x.l.length c8] 25)).alloc (.cells #[.int .i64 0, .int .i64 0, .string ⟨#[]⟩, .slice none 0 0, .slice none 0 0] 25)).heap → W.os = w.os → W.tape = w.tape → W.output = w.output → Calls Tryd.prog 28 #[.agg #[.int .i64 t.kind, .int .i64 t.n, .string ⟨t.s.toArray⟩, .slice a1 t.keys.length c1, .slice a2 t.l.length c2], .string ⟨s.toArray⟩] W fun e w' => e = .returned (.int .i64 (optI (atV t s))) ∧ KA w t x a1 a2 a7 a8 c1 c2 c7 c8 w') := by
    intro W e1 e2 e3 e4
    have hbW := bel_of3 e1 e2 e3 e4
    refine (rkid_is W (fun k => ok k ∧ k < w.heap.size) t _ s (H.out.bel hbW) (fun h5 => by have := nice_paired HN.out h5; simp only [pairedV, Bool.and_eq_true, decide_eq_true_eq] at this; omega)).mono ?_
    rintro e w1 ⟨rfl, hb1⟩
    exact ⟨rfl, box_bel hb1 (by unfold BoxIs; rw [e1]; exact h3a w _ _ _), box_bel hb1 (by unfold BoxIs; rw [e1]; exact h3b w _ _ _), box_bel hb1 (by unfold BoxIs; rw [e1]; exact h3c w _ _ _), bel_trans hbW hb1⟩
  have N4 := hidI n4
  have AT := hidI ha
  have hi : i < t.l.length := at_lt ha
  clear ha
  clear h hx hn n4 hnv
  have e11 : ¬ (1 : Int) < 1 := by omega
  go_enter Tryd.func31, Tryd.ntmps31
  go_upto_region 1 with fail
  go_cut [10] (fun p wc => p = .int .i64 (optI (atV t s)) ∧ KA w t x a1 a2 a7 a8 c1 c2 c7 c8 wc)
  case first =>
    go_region_with ((go_at_call 28; refine (con1.out _ (by rfl) (by rfl) (by rfl) (by rfl)).mono ?_; rintro e w1 ⟨rfl, hfin⟩; have FIN := hidI hfin; clear hfin))
    all_goals
      go_wp2_with fail
      go_meet
      case rel => exact ⟨rfl, FIN.out⟩
  case rest =>
    obtain ⟨wa, hwa⟩ : ∃ wa, wa = wc := ⟨_, rfl⟩
    subst hwa
    obtain ⟨rfl, k0⟩ := hcut
    have K := hidI k0
    clear con1 g0 k0
    have hk3 := K.out.big
    obtain ⟨p0, p1, p2, p3, p4, -⟩ := K.out.1.c
    obtain ⟨q0, q1, q2, q3, q4, -⟩ := K.out.2.1.c
    obtain ⟨x0, x1, x2, x3, x4, y0, y1, y2, y3, y4⟩ := K.out.2.2.1.c
    have eo : optI (some i) = (i : Int) := rfl
    rw [AT.out, eo]
    clear eo
    have v1 : ¬ (i : Int) < 0 := by omega
    go_wp2_with fail
    refine (rswapped_is _ (lowN ok w.heap.size wa.heap.size) t x _ _ i ((H.out.bel K.out.2.2.2).weak lowN_low) ((HX.out.bel K.out.2.2.2).weak lowN_low) hi (by omega)).mono ?_
    rintro e w9 ⟨r9, rfl, hb1, hy⟩
    obtain ⟨z, hz⟩ : ∃ z : V, { t with l := t.l.take i ++ x :: t.l.drop (i + 1) } = z := ⟨_, rfl⟩
    have HZ := hidI hz
    rw [hz] at hy
    obtain ⟨b7, b8, d7, d8, rfl⟩ := hy.form
    have K9 := hidI (K.out.bel hb1)
    have R := hidI (put_out K9.out hy (by omega) (by omega))
    clear x0 x1 x2 x3 x4 y0 y1 y2 y3 y4 p0 p1 p2 p3 p4 q0 q1 q2 q3 q4
    obtain ⟨x0, x1, x2, x3, x4, y0, y1, y2, y3, y4⟩ := K9.out.2.2.1.c
    clear hb1 hy hz
    go_wp2_with fail
    obtain ⟨r1, r2, r3⟩ := R.out
    obtain ⟨z0, z1, z2, z3, z4, -⟩ := r3.c
    refine bodyPost_ret (v := .tuple #[.agg #[.int .i64 z.kind, .int .i64 z.n, .string ⟨z.s.toArray⟩, .slice b7 z.keys.length d7, .slice b8 z.l.length d8], .int .i64 0]) ?_ rfl ?_
    · simp only [set5] at z0 z1 z2 z3 z4
      simp [results, Tryd.results31, go_sem, z0, z1, z2, z3, z4]
    · exact ⟨_, rfl, r1, by rw [HZ.out]; exact r2⟩
set_option maxRecDepth 100000 in
set_option maxHeartbeats 40000000 in
theorem alter1_object (w : World) (ok oks : Nat → Prop) (t x : V) (v xv nv : Value) (s : List UInt8) (h : In w ok t v) (hx : In w ok x xv) (hn : Nice t) (hnv : StrsAre w oks [s] nv) (h5 : t.kind = 5) :
    Calls Tryd.prog 31 #[.int .i64 1, v, nv, xv] w fun e w' => ∃ r, e = .returned (.tuple #[r, .int .i64 0]) ∧ Below w.heap.size w w' ∧ In w' (okN ok w.heap.size) (withV t s x) r := by
  obtain ⟨nb, no, nc, rfl, n1, n2, n3, n4⟩ := strs_head hnv
  simp only [List.length_nil, Nat.zero_add] at n1 ⊢
  have H := hidI h.low
  have HX := hidI hx.low
  have HN := hidI hn
  obtain ⟨l1, l2, l3⟩ := h.lens
  obtain ⟨a1, a2, c1, c2, rfl⟩ := h.form
  obtain ⟨a7, a8, c7, c8, rfl⟩ := hx.form
  have hsz := nice_len hn
  have g0 : ∀ o1 o2 o3, (((w.alloc o1).alloc o2).alloc o3).cell? ⟨nb, no, none⟩ = some (.string ⟨s.toArray⟩) := fun o1 o2 o3 => cell_bel (bel_trans (bel_trans (bel_alloc _ _) (bel_alloc _ _)) (bel_alloc _ o3)) n4
  have con1 : Hid (∀ W, W.heap = (((w.alloc (.cells #[.int .i64 t.kind, .int .i64 t.n, .string ⟨t.s.toArray⟩, .slice a1 t.keys.length c1, .slice a2 t.l.length c2] 25)).alloc (.cells #[.int .i64 x.kind, .int .i64 x.n, .string ⟨x.s.toArray⟩, .slice a7 x.keys.length c7, .slice a8 x.l.length c8] 25)).alloc (.cells #[.int .i64 0, .int .i64 0, .string ⟨#[]⟩, .slice none 0 0, .slice none 0 0] 25)).heap → W.os = w.os → W.tape = w.tape → W.output = w.output → Calls Tryd.prog 28 #[.agg #[.int .i64 t.kind, .int .i64 t.n, .string ⟨t.s.toArray⟩, .slice a1 t.keys.length c1, .slice a2 t.l.length c2], .string ⟨s.toArray⟩] W fun e w' => e = .returned (.int .i64 (optI (atV t s))) ∧ KA w t x a1 a2 a7 a8 c1 c2 c7 c8 w') := by
    intro W e1 e2 e3 e4
    have hbW := bel_of3 e1 e2 e3 e4
    refine (rkid_is W (fun k => ok k ∧ k < w.heap.size) t _ s (H.out.bel hbW) (fun h5 => by have := nice_paired HN.out h5; simp only [pairedV, Bool.and_eq_true, decide_eq_true_eq] at this; omega)).mono ?_
    rintro e w1 ⟨rfl, hb1⟩
    exact ⟨rfl, box_bel hb1 (by unfold BoxIs; rw [e1]; exact h3a w _ _ _), box_bel hb1 (by unfold BoxIs; rw [e1]; exact h3b w _ _ _), box_bel hb1 (by unfold BoxIs; rw [e1]; exact h3c w _ _ _), bel_trans hbW hb1⟩
  have N4 := hidI n4
  have q5 : (t.kind == 5) = true := by simp [h5]
  have OB := hidI (nice_ob HN.out h5)
  clear h5
  clear h hx hn n4 hnv
  have e11 : ¬ (1 : Int) < 1 := by omega
  go_enter Tryd.func31, Tryd.ntmps31
  go_upto_region 1 with fail
  go_cut [10] (fun p wc => p = .int .i64 (optI (atV t s)) ∧ KA w t x a1 a2 a7 a8 c1 c2 c7 c8 wc)
  case first =>
    go_region_with ((go_at_call 28; refine (con1.out _ (by rfl) (by rfl) (by rfl) (by rfl)).mono ?_; rintro e w1 ⟨rfl, hfin⟩; have FIN := hidI hfin; clear hfin))
    all_goals
      go_wp2_with fail
      go_meet
      case rel => exact ⟨rfl, FIN.out⟩
  case rest =>
    obtain ⟨wa, hwa⟩ : ∃ wa, wa = wc := ⟨_, rfl⟩
    subst hwa
    obtain ⟨rfl, k0⟩ := hcut
    have K := hidI k0
    clear con1 g0 k0
    have hk3 := K.out.big
    obtain ⟨p0, p1, p2, p3, p4, -⟩ := K.out.1.c
    obtain ⟨q0, q1, q2, q3, q4, -⟩ := K.out.2.1.c
    obtain ⟨x0, x1, x2, x3, x4, y0, y1, y2, y3, y4⟩ := K.out.2.2.1.c
    go_upto_region 10 with fail
    refine wp_region_T (fun wS => KA w t x a1 a2 a7 a8 c1 c2 c7 c8 wS) [6] (by kernel_rfl) (K.out.bel (bel_drewN _ 1)) (fun hHeld => ?_)
    refine wpAnyT_take (i := 0) (v := ?_) [5, 6, 7] (oi := { dst := some 58, op := Go.Op.load 25 (Go.Operand.tmp 5), type := 25, pos := "low.go:493", after := #[], guard := none }) rfl (by kernel_rfl) (by kernel_rfl) (by kernel_rfl) (by kernel_rfl) (fun _ _ _ h => h) (Or.inl ⟨by rfl, ?_⟩) hHeld ?_
    rotate_left
    · intro wS hSw
      obtain ⟨u0, u1, u2, u3, u4, -⟩ := hSw.1.c
      obtain ⟨v0, v1, v2, v3, v4, -⟩ := hSw.2.1.c
      have nn := cell_bel hSw.2.2.2 N4.out
      go_simp
      all_goals with_reducible rfl
    simp only [Act.put, List.setIfInBounds_toArray, List.set_cons_zero, List.set_cons_succ]
    refine wpAnyT_take (i := 1) (v := ?_) [2, 3, 5, 6, 7] (oi := { dst := some 59, op := Go.Op.move (Go.Operand.tmp 2), type := 22, pos := "low.go:493", after := #[], guard := none }) rfl (by kernel_rfl) (by kernel_rfl) (by kernel_rfl) (by kernel_rfl) (fun _ _ _ h => h) (Or.inl ⟨by rfl, ?_⟩) hHeld ?_
    rotate_left
    · intro wS hSw
      go_simp
      all_goals with_reducible rfl
    simp only [Act.put, List.setIfInBounds_toArray, List.set_cons_zero, List.set_cons_succ]
    refine wpAnyT_take (i := 2) (v := ?_) [3, 5, 6, 7] (oi := { dst := some 60, op := Go.Op.indexAddr 22 (Go.Operand.tmp 59) (Go.Operand.const (Go.Value.int Go.IntKind.i64 0)), type := 0, pos := "low.go:493", after := #[{ on := 1, ground := Go.Ground.data }], guard := none }) rfl (by kernel_rfl) (by kernel_rfl) (by kernel_rfl) (by kernel_rfl) (fun _ _ _ h => h) (Or.inl ⟨by rfl, ?_⟩) hHeld ?_
    rotate_left
    · intro wS hSw
      go_simp
      all_goals with_reducible rfl
    simp only [Act.put, List.setIfInBounds_toArray, List.set_cons_zero, List.set_cons_succ]
    refine wpAnyT_take (i := 3) (v := ?_) [5, 6, 7] (oi := { dst := some 61, op := Go.Op.load 9 (Go.Operand.tmp 60), type := 9, pos := "low.go:493", after := #[{ on := 2, ground := Go.Ground.data }], guard := none }) rfl (by kernel_rfl) (by kernel_rfl) (by kernel_rfl) (by kernel_rfl) (fun _ _ _ h => h) (Or.inl ⟨by rfl, ?_⟩) hHeld ?_
    rotate_left
    · intro wS hSw
      obtain ⟨u0, u1, u2, u3, u4, -⟩ := hSw.1.c
      obtain ⟨v0, v1, v2, v3, v4, -⟩ := hSw.2.1.c
      have nn := cell_bel hSw.2.2.2 N4.out
      go_simp
      all_goals with_reducible rfl
    simp only [Act.put, List.setIfInBounds_toArray, List.set_cons_zero, List.set_cons_succ]
    refine wpAnyT_take (i := 4) (v := ?_) [5, 6, 7] (oi := { dst := some 62, op := Go.Op.load 25 (Go.Operand.tmp 7), type := 25, pos := "low.go:493", after := #[], guard := none }) rfl (by kernel_rfl) (by kernel_rfl) (by kernel_rfl) (by kernel_rfl) (fun _ _ _ h => h) (Or.inl ⟨by rfl, ?_⟩) hHeld ?_
    rotate_left
    · intro wS hSw
      obtain ⟨u0, u1, u2, u3, u4, -⟩ := hSw.1.c
      obtain ⟨v0, v1, v2, v3, v4, -⟩ := hSw.2.1.c
      have nn := cell_bel hSw.2.2.2 N4.out
      go_simp
      all_goals with_reducible rfl
    simp only [Act.put, List.setIfInBounds_toArray, List.set_cons_zero, List.set_cons_succ]
    refine wpAnyT_ready (rs := [5]) (by kernel_rfl) (by simp) ?_
    refine AllReadyT.cons (i := 5) (o := { dst := some 63, op := Go.Op.call { callee := Go.Callee.value (Go.Operand.func 54), args := #[Go.Operand.tmp 58, Go.Operand.tmp 61, Go.Operand.tmp 62], argTypes := #[25, 9, 25] }, type := 25, pos := "low.go:493", after := #[{ on := 0, ground := Go.Ground.data }, { on := 3, ground := Go.Ground.data }, { on := 4, ground := Go.Ground.data }], guard := none }) rfl (fun K hK => ?_) ?_
    · go_simp
      refine (rwith_is _ (lowN ok w.heap.size wa.heap.size) t x _ _ s ((H.out.bel hHeld.2.2.2).weak lowN_low) ((HX.out.bel hHeld.2.2.2).weak lowN_low) OB.out (by omega) n3).mono ?_
      rintro e w5q ⟨r9, rfl, hy, hb⟩
      obtain ⟨z, hz⟩ : ∃ z : V, withV t s x = z := ⟨_, rfl⟩
      rw [hz] at hy
      obtain ⟨b7, b8, d7, d8, rfl⟩ := hy.form
      have HZ := hidI hz
      have HB := hidI hHeld.big
      have HY := hidI hy
      refine hK.out _ _ (hHeld.bel hb) (fun hHeld2 => ?_)
      clear hz hy hb
      clear hK K
      replace hHeld := hHeld2
      clear hHeld2
      try simp only [Act.put, List.setIfInBounds_toArray, List.set_cons_zero, List.set_cons_succ]
      obtain ⟨o0, o1, o2, o3, o4, f0, f1, f2, f3, f4⟩ := hHeld.2.2.1.c
      have R := hidI (put_out hHeld HY.out (by omega) HB.out)
      clear hHeld
      refine wpAnyT_last (i := 6) (o := { dst := none, op := Go.Op.store 25 (Go.Operand.tmp 8) (Go.Operand.tmp 63), type := 0, pos := "low.go:493", after := #[{ on := 5, ground := Go.Ground.data }, { on := 5, ground := Go.Ground.chain }, { on := 0, ground := Go.Ground.phase }, { on := 1, ground := Go.Ground.phase }, { on := 2, ground := Go.Ground.phase }, { on := 3, ground := Go.Ground.phase }, { on := 4, ground := Go.Ground.phase }, { on := 5, ground := Go.Ground.phase }], guard := none }) (by kernel_rfl) (by rfl) rfl (fun K hK => ?_)
      go_simp
      refine hK.out _ _ ?_
      clear hK K
      try simp only [Act.put, List.setIfInBounds_toArray, List.set_cons_zero, List.set_cons_succ]
      refine wpAnyT_last (i := 7) (o := { dst := some 9, op := Go.Op.assign (Go.Operand.const (Go.Value.int Go.IntKind.i64 0)), type := 27, pos := "low.go:493", after := #[{ on := 6, ground := Go.Ground.chain }, { on := 0, ground := Go.Ground.phase }, { on := 1, ground := Go.Ground.phase }, { on := 2, ground := Go.Ground.phase }, { on := 3, ground := Go.Ground.phase }, { on := 4, ground := Go.Ground.phase }, { on := 5, ground := Go.Ground.phase }, { on := 6, ground := Go.Ground.phase }], guard := none }) (by kernel_rfl) (by rfl) rfl (fun K hK => ?_)
      go_simp
      refine hK.out _ _ ?_
      clear hK K
      try simp only [Act.put, List.setIfInBounds_toArray, List.set_cons_zero, List.set_cons_succ]
      refine wpAnyT_done (by kernel_rfl) ?_ _
      go_wp2_with fail
      obtain ⟨r1, r2, r3⟩ := R.out
      obtain ⟨z0, z1, z2, z3, z4, -⟩ := r3.c
      refine bodyPost_ret (v := .tuple #[.agg #[.int .i64 z.kind, .int .i64 z.n, .string ⟨z.s.toArray⟩, .slice b7 z.keys.length d7, .slice b8 z.l.length d8], .int .i64 0]) ?_ rfl ?_
      · simp only [set5] at z0 z1 z2 z3 z4
        simp [results, Tryd.results31, go_sem, z0, z1, z2, z3, z4]
      · exact ⟨_, rfl, r1, by rw [HZ.out]; exact r2⟩
    exact AllReadyT.nil
set_option maxRecDepth 100000 in
set_option maxHeartbeats 40000000 in
theorem alter2_object (w : World) (ok oks : Nat → Prop) (t x : V) (v xv nv : Value) (s : List UInt8) (h : In w ok t v) (hx : In w ok x xv) (hn : Nice t) (hnv : StrsAre w oks [s] nv) (i : Nat) (ha : atV t s = some i) (h5 : t.kind = 5) :
    Calls Tryd.prog 31 #[.int .i64 2, v, nv, xv] w fun e w' => ∃ r, e = .returned (.tuple #[r, .int .i64 0]) ∧ Below w.heap.size w w' ∧ In w' (okN ok w.heap.size) (withoutV t s) r := by
  obtain ⟨nb, no, nc, rfl, n1, n2, n3, n4⟩ := strs_head hnv
  simp only [List.length_nil, Nat.zero_add] at n1 ⊢
  have H := hidI h.low
  have HX := hidI hx.low
  have HN := hidI hn
  obtain ⟨l1, l2, l3⟩ := h.lens
  obtain ⟨a1, a2, c1, c2, rfl⟩ := h.form
  obtain ⟨a7, a8, c7, c8, rfl⟩ := hx.form
  have hsz := nice_len hn
  have g0 : ∀ o1 o2 o3, (((w.alloc o1).alloc o2).alloc o3).cell? ⟨nb, no, none⟩ = some (.string ⟨s.toArray⟩) := fun o1 o2 o3 => cell_bel (bel_trans (bel_trans (bel_alloc _ _) (bel_alloc _ _)) (bel_alloc _ o3)) n4
  have con1 : Hid (∀ W, W.heap = (((w.alloc (.cells #[.int .i64 t.kind, .int .i64 t.n, .string ⟨t.s.toArray⟩, .slice a1 t.keys.length c1, .slice a2 t.l.length c2] 25)).alloc (.cells #[.int .i64 x.kind, .int .i64 x.n, .string ⟨x.s.toArray⟩, .slice a7 x.keys.length c7, .slice a8 x.l.length c8] 25)).alloc (.cells #[.int .i64 0, .int .i64 0, .string ⟨#[]⟩, .slice none 0 0, .slice none 0 0] 25)).heap → W.os = w.os → W.tape = w.tape → W.output = w.output → Calls Tryd.prog 28 #[.agg #[.int .i64 t.kind, .int .i64 t.n, .string ⟨t.s.toArray⟩, .slice a1 t.keys.length c1, .slice a2 t.l.length c2], .string ⟨s.toArray⟩] W fun e w' => e = .returned (.int .i64 (optI (atV t s))) ∧ KA w t x a1 a2 a7 a8 c1 c2 c7 c8 w') := by
    intro W e1 e2 e3 e4
    have hbW := bel_of3 e1 e2 e3 e4
    refine (rkid_is W (fun k => ok k ∧ k < w.heap.size) t _ s (H.out.bel hbW) (fun h5 => by have := nice_paired HN.out h5; simp only [pairedV, Bool.and_eq_true, decide_eq_true_eq] at this; omega)).mono ?_
    rintro e w1 ⟨rfl, hb1⟩
    exact ⟨rfl, box_bel hb1 (by unfold BoxIs; rw [e1]; exact h3a w _ _ _), box_bel hb1 (by unfold BoxIs; rw [e1]; exact h3b w _ _ _), box_bel hb1 (by unfold BoxIs; rw [e1]; exact h3c w _ _ _), bel_trans hbW hb1⟩
  have N4 := hidI n4
  have AT := hidI ha
  have hi : i < t.l.length := at_lt ha
  clear ha
  have q5 : (t.kind == 5) = true := by simp [h5]
  have OB := hidI (nice_ob HN.out h5)
  clear h5
  clear h hx hn n4 hnv
  have e11 : ¬ (1 : Int) < 1 := by omega
  go_enter Tryd.func31, Tryd.ntmps31
  go_upto_region 1 with fail
  go_cut [10] (fun p wc => p = .int .i64 (optI (atV t s)) ∧ KA w t x a1 a2 a7 a8 c1 c2 c7 c8 wc)
  case first =>
    go_region_with ((go_at_call 28; refine (con1.out _ (by rfl) (by rfl) (by rfl) (by rfl)).mono ?_; rintro e w1 ⟨rfl, hfin⟩; have FIN := hidI hfin; clear hfin))
    all_goals
      go_wp2_with fail
      go_meet
      case rel => exact ⟨rfl, FIN.out⟩
  case rest =>
    obtain ⟨wa, hwa⟩ : ∃ wa, wa = wc := ⟨_, rfl⟩
    subst hwa
    obtain ⟨rfl, k0⟩ := hcut
    have K := hidI k0
    clear con1 g0 k0
    have hk3 := K.out.big
    obtain ⟨p0, p1, p2, p3, p4, -⟩ := K.out.1.c
    obtain ⟨q0, q1, q2, q3, q4, -⟩ := K.out.2.1.c
    obtain ⟨x0, x1, x2, x3, x4, y0, y1, y2, y3, y4⟩ := K.out.2.2.1.c
    have eo : optI (some i) = (i : Int) := rfl
    rw [AT.out, eo]
    clear eo
    have v1 : ¬ (i : Int) < 0 := by omega
    go_upto_region 25 with fail
    refine wp_region_T (fun wS => KA w t x a1 a2 a7 a8 c1 c2 c7 c8 wS) [5] (by kernel_rfl) (K.out.bel (bel_drewN _ 1)) (fun hHeld => ?_)
    refine wpAnyT_take (i := 0) (v := ?_) [4, 5, 6] (oi := { dst := some 125, op := Go.Op.load 25 (Go.Operand.tmp 5), type := 25, pos := "low.go:509", after := #[], guard := none }) rfl (by kernel_rfl) (by kernel_rfl) (by kernel_rfl) (by kernel_rfl) (fun _ _ _ h => h) (Or.inl ⟨by rfl, ?_⟩) hHeld ?_
    rotate_left
    · intro wS hSw
      obtain ⟨u0, u1, u2, u3, u4, -⟩ := hSw.1.c
      obtain ⟨v0, v1, v2, v3, v4, -⟩ := hSw.2.1.c
      have nn := cell_bel hSw.2.2.2 N4.out
      go_simp
      all_goals with_reducible rfl
    simp only [Act.put, List.setIfInBounds_toArray, List.set_cons_zero, List.set_cons_succ]
    refine wpAnyT_take (i := 1) (v := ?_) [2, 3, 4, 5, 6] (oi := { dst := some 126, op := Go.Op.move (Go.Operand.tmp 2), type := 22, pos := "low.go:509", after := #[], guard := none }) rfl (by kernel_rfl) (by kernel_rfl) (by kernel_rfl) (by kernel_rfl) (fun _ _ _ h => h) (Or.inl ⟨by rfl, ?_⟩) hHeld ?_
    rotate_left
    · intro wS hSw
      go_simp
      all_goals with_reducible rfl
    simp only [Act.put, List.setIfInBounds_toArray, List.set_cons_zero, List.set_cons_succ]
    refine wpAnyT_take (i := 2) (v := ?_) [3, 4, 5, 6] (oi := { dst := some 127, op := Go.Op.indexAddr 22 (Go.Operand.tmp 126) (Go.Operand.const (Go.Value.int Go.IntKind.i64 0)), type := 0, pos := "low.go:509", after := #[{ on := 1, ground := Go.Ground.data }], guard := none }) rfl (by kernel_rfl) (by kernel_rfl) (by kernel_rfl) (by kernel_rfl) (fun _ _ _ h => h) (Or.inl ⟨by rfl, ?_⟩) hHeld ?_
    rotate_left
    · intro wS hSw
      go_simp
      all_goals with_reducible rfl
    simp only [Act.put, List.setIfInBounds_toArray, List.set_cons_zero, List.set_cons_succ]
    refine wpAnyT_take (i := 3) (v := ?_) [4, 5, 6] (oi := { dst := some 128, op := Go.Op.load 9 (Go.Operand.tmp 127), type := 9, pos := "low.go:509", after := #[{ on := 2, ground := Go.Ground.data }], guard := none }) rfl (by kernel_rfl) (by kernel_rfl) (by kernel_rfl) (by kernel_rfl) (fun _ _ _ h => h) (Or.inl ⟨by rfl, ?_⟩) hHeld ?_
    rotate_left
    · intro wS hSw
      obtain ⟨u0, u1, u2, u3, u4, -⟩ := hSw.1.c
      obtain ⟨v0, v1, v2, v3, v4, -⟩ := hSw.2.1.c
      have nn := cell_bel hSw.2.2.2 N4.out
      go_simp
      all_goals with_reducible rfl
    simp only [Act.put, List.setIfInBounds_toArray, List.set_cons_zero, List.set_cons_succ]
    refine wpAnyT_ready (rs := [4]) (by kernel_rfl) (by simp) ?_
    refine AllReadyT.cons (i := 4) (o := { dst := some 129, op := Go.Op.call { callee := Go.Callee.value (Go.Operand.func 55), args := #[Go.Operand.tmp 125, Go.Operand.tmp 128], argTypes := #[25, 9] }, type := 25, pos := "low.go:509", after := #[{ on := 0, ground := Go.Ground.data }, { on := 3, ground := Go.Ground.data }], guard := none }) rfl (fun K hK => ?_) ?_
    · go_simp
      refine (rwithout_is _ (lowN ok w.heap.size wa.heap.size) t _ s ((H.out.bel hHeld.2.2.2).weak lowN_low) OB.out (by omega)).mono ?_
      rintro e w4q ⟨r9, rfl, hy, hb⟩
      obtain ⟨z, hz⟩ : ∃ z : V, withoutV t s = z := ⟨_, rfl⟩
      rw [hz] at hy
      obtain ⟨b7, b8, d7, d8, rfl⟩ := hy.form
      have HZ := hidI hz
      have HB := hidI hHeld.big
      have HY := hidI hy
      refine hK.out _ _ (hHeld.bel hb) (fun hHeld2 => ?_)
      clear hz hy hb
      clear hK K
      replace hHeld := hHeld2
      clear hHeld2
      try simp only [Act.put, List.setIfInBounds_toArray, List.set_cons_zero, List.set_cons_succ]
      obtain ⟨o0, o1, o2, o3, o4, f0, f1, f2, f3, f4⟩ := hHeld.2.2.1.c
      have R := hidI (put_out hHeld HY.out (by omega) HB.out)
      clear hHeld
      refine wpAnyT_last (i := 5) (o := { dst := none, op := Go.Op.store 25 (Go.Operand.tmp 8) (Go.Operand.tmp 129), type := 0, pos := "low.go:509", after := #[{ on := 4, ground := Go.Ground.data }, { on := 4, ground := Go.Ground.chain }, { on := 0, ground := Go.Ground.phase }, { on := 1, ground := Go.Ground.phase }, { on := 2, ground := Go.Ground.phase }, { on := 3, ground := Go.Ground.phase }, { on := 4, ground := Go.Ground.phase }], guard := none }) (by kernel_rfl) (by rfl) rfl (fun K hK => ?_)
      go_simp
      refine hK.out _ _ ?_
      clear hK K
      try simp only [Act.put, List.setIfInBounds_toArray, List.set_cons_zero, List.set_cons_succ]
      refine wpAnyT_last (i := 6) (o := { dst := some 9, op := Go.Op.assign (Go.Operand.const (Go.Value.int Go.IntKind.i64 0)), type := 27, pos := "low.go:509", after := #[{ on := 5, ground := Go.Ground.chain }, { on := 0, ground := Go.Ground.phase }, { on := 1, ground := Go.Ground.phase }, { on := 2, ground := Go.Ground.phase }, { on := 3, ground := Go.Ground.phase }, { on := 4, ground := Go.Ground.phase }, { on := 5, ground := Go.Ground.phase }], guard := none }) (by kernel_rfl) (by rfl) rfl (fun K hK => ?_)
      go_simp
      refine hK.out _ _ ?_
      clear hK K
      try simp only [Act.put, List.setIfInBounds_toArray, List.set_cons_zero, List.set_cons_succ]
      refine wpAnyT_done (by kernel_rfl) ?_ _
      go_wp2_with fail
      obtain ⟨r1, r2, r3⟩ := R.out
      obtain ⟨z0, z1, z2, z3, z4, -⟩ := r3.c
      refine bodyPost_ret (v := .tuple #[.agg #[.int .i64 z.kind, .int .i64 z.n, .string ⟨z.s.toArray⟩, .slice b7 z.keys.length d7, .slice b8 z.l.length d8], .int .i64 0]) ?_ rfl ?_
      · simp only [set5] at z0 z1 z2 z3 z4
        simp [results, Tryd.results31, go_sem, z0, z1, z2, z3, z4]
      · exact ⟨_, rfl, r1, by rw [HZ.out]; exact r2⟩
    exact AllReadyT.nil
end Go.Proofs.YtaifciobaapehaaDoor

set_option linter.unusedSimpArgs false
set_option linter.unusedVariables false
namespace Go.Proofs.YtaifciobaapehaaDoor
open Go.RowKit

/- The boxes, and a list that is being made. -/
def AB (w : World) (t x : V) (a1 a2 a7 a8 : Option Addr) (c1 c2 c7 c8 g : Nat) (la : Option Addr) (n lc : Nat) (W : World) : Prop := KA w t x a1 a2 a7 a8 c1 c2 c7 c8 W ∧ BoxIs W g (.int .i64 4) (.int .i64 0) (.string ⟨#[]⟩) (.slice none 0 0) (.slice la n lc) ∧ w.heap.size + 3 ≤ g
def AL (w : World) (t x : V) (a1 a2 a7 a8 : Option Addr) (c1 c2 c7 c8 g : Nat) (la : Option Addr) (n lc : Nat) (cs : List Value) (W : World) : Prop := AB w t x a1 a2 a7 a8 c1 c2 c7 c8 g la n lc W ∧ W.ownsRow (g + 1) 25 5 (.slice la n lc) n cs
theorem AB.bel {w W W' : World} {t x : V} {a1 a2 a7 a8 : Option Addr} {c1 c2 c7 c8 : Nat} {g n lc : Nat} {la : Option Addr} (h : AB w t x a1 a2 a7 a8 c1 c2 c7 c8 g la n lc W) (hb : Below W.heap.size W W') : AB w t x a1 a2 a7 a8 c1 c2 c7 c8 g la n lc W' := ⟨h.1.bel hb, box_bel hb h.2.1, h.2.2⟩
theorem AB.grown {w W W' : World} {t x : V} {a1 a2 a7 a8 : Option Addr} {c1 c2 c7 c8 : Nat} {g n lc : Nat} {la : Option Addr} {r : Option Nat} (h : AB w t x a1 a2 a7 a8 c1 c2 c7 c8 g la n lc W) (hg : W.grownBy W' r) (hr : ∀ k, r = some k → g + 1 ≤ k) : AB w t x a1 a2 a7 a8 c1 c2 c7 c8 g la n lc W' :=
  ⟨h.1.grown hg (fun k e => by have := hr k e; have := h.2.2; omega), h.2.1.grown hg (fun e => by have := hr _ e.symm; omega), h.2.2⟩
theorem AL.bel {w W W' : World} {t x : V} {a1 a2 a7 a8 : Option Addr} {c1 c2 c7 c8 : Nat} {g n lc : Nat} {la : Option Addr} {cs : List Value} (h : AL w t x a1 a2 a7 a8 c1 c2 c7 c8 g la n lc cs W) (hb : Below W.heap.size W W') : AL w t x a1 a2 a7 a8 c1 c2 c7 c8 g la n lc cs W' :=
  ⟨h.1.bel hb, h.2.kept (gb_below hb : W.grownBy W' none) (by cases e : (Value.slice la n lc).ownBlock with | none => exact .inl rfl | some j => exact .inr (by simp))⟩
theorem AL.lt {w W : World} {t x : V} {a1 a2 a7 a8 : Option Addr} {c1 c2 c7 c8 : Nat} {g n lc : Nat} {la : Option Addr} {cs : List Value} (h : AL w t x a1 a2 a7 a8 c1 c2 c7 c8 g la n lc cs W) : g + 1 ≤ W.heap.size := h.1.2.1.lt
theorem AL.push {w W W' : World} {t x : V} {a1 a2 a7 a8 : Option Addr} {c1 c2 c7 c8 : Nat} {g n lc n' lc' : Nat} {la la' : Option Addr} {cs cs' : List Value} (h : AL w t x a1 a2 a7 a8 c1 c2 c7 c8 g la n lc cs W) (ho : W'.ownsRow (g + 1) 25 5 (.slice la' n' lc') n' cs') (hg : W.grownBy W' (Value.slice la n lc).ownBlock) :
    AL w t x a1 a2 a7 a8 c1 c2 c7 c8 g la' n' lc' cs' (W'.setCell ⟨g, 4, none⟩ (.slice la' n' lc')) := by
  have hlow := h.2.lt
  have r1 := h.1.grown hg (fun k e => (hlow k e).1)
  have gs : W'.grownBy (W'.setCell ⟨g, 4, none⟩ (.slice la' n' lc')) (some g) := gb_set (gb_refl _ _) _ _
  exact ⟨⟨r1.1.grown gs (fun k e => by cases e; exact h.1.2.2), heap_set r1.2.1 4 _, h.1.2.2⟩, own_kept' ho gs (by omega)⟩
theorem AL.fin {w W : World} {t x : V} {a1 a2 a7 a8 : Option Addr} {c1 c2 c7 c8 : Nat} {g n lc d : Nat} {la : Option Addr} {cs : List Value} {ok : Nat → Prop} {l' : List V} (h : AL w t x a1 a2 a7 a8 c1 c2 c7 c8 g la n lc cs W) (hr : RowV (VIs w (fun k => ok k ∧ k < w.heap.size) d) l' cs) (hn : n = l'.length) (hm : l'.length ≤ 1000000) :
    Below w.heap.size w (set5 W (w.heap.size + 2) (.int .i64 4) (.int .i64 0) (.string ⟨#[]⟩) (.slice none 0 0) (.slice la n lc)) ∧ In (set5 W (w.heap.size + 2) (.int .i64 4) (.int .i64 0) (.string ⟨#[]⟩) (.slice none 0 0) (.slice la n lc)) (okN ok w.heap.size) ⟨4, 0, [], [], l'⟩ (.agg #[.int .i64 4, .int .i64 0, .string ⟨#[]⟩, .slice none 0 0, .slice la n lc]) ∧ BoxIs (set5 W (w.heap.size + 2) (.int .i64 4) (.int .i64 0) (.string ⟨#[]⟩) (.slice none 0 0) (.slice la n lc)) (w.heap.size + 2) (.int .i64 4) (.int .i64 0) (.string ⟨#[]⟩) (.slice none 0 0) (.slice la n lc) := by
  have g2 := set5_gb W (w.heap.size + 2) (.int .i64 4) (.int .i64 0) (.string ⟨#[]⟩) (.slice none 0 0) (.slice la n lc)
  have hb9 : Below w.heap.size w (set5 W (w.heap.size + 2) (.int .i64 4) (.int .i64 0) (.string ⟨#[]⟩) (.slice none 0 0) (.slice la n lc)) := bel_set5 h.1.1.2.2.2 (by omega) _ _ _ _ _
  have h3 := h.1.2.2
  refine ⟨hb9, ⟨d + 1, _, _, rfl, by unfold I64; simp, by unfold I64; simp, by simp [maxLen], ⟨by simp [maxLen], .inl ⟨rfl, none, rfl⟩⟩, ?_⟩, h.1.1.2.2.1.set _ _ _ _ _⟩
  refine own_vals hn (own_kept' h.2 g2 (by omega)) ?_ (fun k hk => .inr (by omega)) (by unfold maxLen; simp only; omega)
  exact (hr.bel (B := w.heap.size) hb9).imp fun _ _ h => h.weak fun k hk => by rcases hk with hk | hk; exact .inl hk.1; exact .inr hk
theorem list_is {t : V} (h : Nice t) (hk : t.kind = 4) : t = ⟨4, 0, [], [], t.l⟩ := by
  have hs := nice_shaped h
  unfold shapedB at hs
  rw [hk] at hs
  obtain ⟨k, n, s, ks, l⟩ := t
  simp only at hk
  subst hk
  simp at hs
  simp [hs]

attribute [local go_sem ↓] Go.wp_at_zero Go.wp_at_succ
set_option maxRecDepth 100000 in
set_option maxHeartbeats 40000000 in
theorem alter1_list (w : World) (ok oks : Nat → Prop) (t x : V) (v xv nv : Value) (s : List UInt8) (h : In w ok t v) (hx : In w ok x xv) (hn : Nice t) (hnv : StrsAre w oks [s] nv) (i : Nat) (h4 : t.kind = 4) (hp : placeP t.l.length s = some i) :
    Calls Tryd.prog 31 #[.int .i64 1, v, nv, xv] w fun e w' => ∃ r, e = .returned (.tuple #[r, .int .i64 0]) ∧ Below w.heap.size w w' ∧ In w' (okN ok w.heap.size) ({ t with l := t.l.take i ++ x :: t.l.drop i }) r := by
  obtain ⟨nb, no, nc, rfl, n1, n2, n3, n4⟩ := strs_head hnv
  simp only [List.length_nil, Nat.zero_add] at n1 ⊢
  have H := hidI h.low
  have HX := hidI hx.low
  have HN := hidI hn
  obtain ⟨l1, l2, l3⟩ := h.lens
  obtain ⟨a1, a2, c1, c2, rfl⟩ := h.form
  obtain ⟨a7, a8, c7, c8, rfl⟩ := hx.form
  have hsz := nice_len hn
  have g0 : ∀ o1 o2 o3, (((w.alloc o1).alloc o2).alloc o3).cell? ⟨nb, no, none⟩ = some (.string ⟨s.toArray⟩) := fun o1 o2 o3 => cell_bel (bel_trans (bel_trans (bel_alloc _ _) (bel_alloc _ _)) (bel_alloc _ o3)) n4
  have con1 : Hid (∀ W, W.heap = (((w.alloc (.cells #[.int .i64 t.kind, .int .i64 t.n, .string ⟨t.s.toArray⟩, .slice a1 t.keys.length c1, .slice a2 t.l.length c2] 25)).alloc (.cells #[.int .i64 x.kind, .int .i64 x.n, .string ⟨x.s.toArray⟩, .slice a7 x.keys.length c7, .slice a8 x.l.length c8] 25)).alloc (.cells #[.int .i64 0, .int .i64 0, .string ⟨#[]⟩, .slice none 0 0, .slice none 0 0] 25)).heap → W.os = w.os → W.tape = w.tape → W.output = w.output → Calls Tryd.prog 28 #[.agg #[.int .i64 t.kind, .int .i64 t.n, .string ⟨t.s.toArray⟩, .slice a1 t.keys.length c1, .slice a2 t.l.length c2], .string ⟨s.toArray⟩] W fun e w' => e = .returned (.int .i64 (optI (atV t s))) ∧ KA w t x a1 a2 a7 a8 c1 c2 c7 c8 w') := by
    intro W e1 e2 e3 e4
    have hbW := bel_of3 e1 e2 e3 e4
    refine (rkid_is W (fun k => ok k ∧ k < w.heap.size) t _ s (H.out.bel hbW) (fun h5 => by have := nice_paired HN.out h5; simp only [pairedV, Bool.and_eq_true, decide_eq_true_eq] at this; omega)).mono ?_
    rintro e w1 ⟨rfl, hb1⟩
    exact ⟨rfl, box_bel hb1 (by unfold BoxIs; rw [e1]; exact h3a w _ _ _), box_bel hb1 (by unfold BoxIs; rw [e1]; exact h3b w _ _ _), box_bel hb1 (by unfold BoxIs; rw [e1]; exact h3c w _ _ _), bel_trans hbW hb1⟩
  have N4 := hidI n4
  have q5 : (t.kind == 5) = false := by simp [h4]
  have q4 : (t.kind == 4) = true := by simp [h4]
  have hia := place_le hp
  have HP := hidI hp
  obtain ⟨d, hd, hxd⟩ := h.low.two hx.low
  obtain ⟨ks, ls, e9, -, -, -, -, h5⟩ := hd
  simp only [Value.agg.injEq, Array.mk.injEq, List.cons.injEq, and_true] at e9
  obtain ⟨-, -, -, -, rfl⟩ := e9
  obtain ⟨cs1, cs2, v1, v3, r1, r2, s1, s3, hcase⟩ := rows_at h5 i i (Nat.le_refl _) hia (by omega)
  have SL : Hid (SlIs w 5 v1 i cs1 ∧ SlIs w 5 v3 (t.l.length - i) cs2) := ⟨s1, s3⟩
  have RX : RowV (VIs w (fun k => ok k ∧ k < w.heap.size) d) [x] [.int .i64 x.kind, .int .i64 x.n, .string ⟨x.s.toArray⟩, .slice a7 x.keys.length c7, .slice a8 x.l.length c8] := ⟨_, _, _, _, _, [], rfl, hxd, rfl⟩
  have RW : Hid (RowV (VIs w (fun k => ok k ∧ k < w.heap.size) d) (t.l.take i ++ x :: t.l.drop i) ([] ++ cs1 ++ [.int .i64 x.kind, .int .i64 x.n, .string ⟨x.s.toArray⟩, .slice a7 x.keys.length c7, .slice a8 x.l.length c8] ++ cs2)) := hidI (by
    have := (r2.append RX).append r1
    rw [List.nil_append, List.append_assoc]
    exact this)
  have LI : Hid ({ t with l := t.l.take i ++ x :: t.l.drop i } = (⟨4, 0, [], [], t.l.take i ++ x :: t.l.drop i⟩ : V)) := hidI (by rw [list_is hn h4])
  have j0 : (0 : Int) ≤ (i : Int) := by omega
  have j1 : (i : Int) ≤ (t.l.length : Int) := by omega
  have HC := hidI hcase
  clear h5 r1 r2 s1 s3 hcase hp h4 hxd RX
  clear h hx hn n4 hnv
  have e11 : ¬ (1 : Int) < 1 := by omega
  go_enter Tryd.func31, Tryd.ntmps31
  go_upto_region 1 with fail
  go_cut [10] (fun p wc => p = .int .i64 (optI (atV t s)) ∧ KA w t x a1 a2 a7 a8 c1 c2 c7 c8 wc)
  case first =>
    go_region_with ((go_at_call 28; refine (con1.out _ (by rfl) (by rfl) (by rfl) (by rfl)).mono ?_; rintro e w1 ⟨rfl, hfin⟩; have FIN := hidI hfin; clear hfin))
    all_goals
      go_wp2_with fail
      go_meet
      case rel => exact ⟨rfl, FIN.out⟩
  case rest =>
    obtain ⟨wa, hwa⟩ : ∃ wa, wa = wc := ⟨_, rfl⟩
    subst hwa
    obtain ⟨rfl, k0⟩ := hcut
    have K := hidI k0
    clear con1 g0 k0
    have hk3 := K.out.big
    rcases HC.out with ⟨rfl, e3, rfl, rfl⟩ | ⟨b, off, rfl, hc1, hc2, rfl, hv3⟩
    · have j6 : (t.l.length : Int) ≤ 0 := by omega
      have e7 : i = 0 := by omega
      have E3 := hidI e3
      clear HC e3
      subst e7
      obtain ⟨p0, p1, p2, p3, p4, -⟩ := K.out.1.c
      obtain ⟨q0, q1, q2, q3, q4, -⟩ := K.out.2.1.c
      obtain ⟨x0, x1, x2, x3, x4, y0, y1, y2, y3, y4⟩ := K.out.2.2.1.c
      clear p0 p1 p2 p3 p4 q0 q1 q2 q3 q4 x0 x1 x2 x3 x4 y0 y1 y2 y3 y4
      obtain ⟨p0, p1, p2, p3, p4, -⟩ := K.out.1.c
      go_upto_region 12 with fail
      clear p0 p1 p2 p3 p4
      refine wp_region_T (fun wS => KA w t x a1 a2 a7 a8 c1 0 c7 c8 wS) [] (by kernel_rfl) (K.out.bel (bel_drewN _ 1)) (fun hHeld => ?_)
      refine wpAnyT_take (i := 0) (v := ?_) [] (oi := { dst := some 72, op := Go.Op.move (Go.Operand.tmp 2), type := 22, pos := "low.go:495", after := #[], guard := none }) rfl (by kernel_rfl) (by kernel_rfl) (by kernel_rfl) (by kernel_rfl) (fun _ _ _ h => h) (Or.inl ⟨by rfl, ?_⟩) hHeld ?_
      rotate_left
      · intro wS hSw
        go_simp
        all_goals with_reducible rfl
      simp only [Act.put, List.setIfInBounds_toArray, List.set_cons_zero, List.set_cons_succ]
      refine wpAnyT_take (i := 1) (v := ?_) [] (oi := { dst := some 73, op := Go.Op.indexAddr 22 (Go.Operand.tmp 72) (Go.Operand.const (Go.Value.int Go.IntKind.i64 0)), type := 0, pos := "low.go:495", after := #[{ on := 0, ground := Go.Ground.data }], guard := none }) rfl (by kernel_rfl) (by kernel_rfl) (by kernel_rfl) (by kernel_rfl) (fun _ _ _ h => h) (Or.inl ⟨by rfl, ?_⟩) hHeld ?_
      rotate_left
      · intro wS hSw
        go_simp
        all_goals with_reducible rfl
      simp only [Act.put, List.setIfInBounds_toArray, List.set_cons_zero, List.set_cons_succ]
      refine wpAnyT_take (i := 2) (v := ?_) [] (oi := { dst := some 74, op := Go.Op.load 9 (Go.Operand.tmp 73), type := 9, pos := "low.go:495", after := #[{ on := 1, ground := Go.Ground.data }], guard := none }) rfl (by kernel_rfl) (by kernel_rfl) (by kernel_rfl) (by kernel_rfl) (fun _ _ _ h => h) (Or.inl ⟨by rfl, ?_⟩) hHeld ?_
      rotate_left
      · intro wS hSw
        obtain ⟨u0, u1, u2, u3, u4, -⟩ := hSw.1.c
        have nn := cell_bel hSw.2.2.2 N4.out
        go_simp
        all_goals with_reducible rfl
      simp only [Act.put, List.setIfInBounds_toArray, List.set_cons_zero, List.set_cons_succ]
      refine wpAnyT_take (i := 3) (v := ?_) [] (oi := { dst := some 75, op := Go.Op.fieldAddr 25 (Go.Operand.tmp 5) 4, type := 0, pos := "low.go:495", after := #[], guard := none }) rfl (by kernel_rfl) (by kernel_rfl) (by kernel_rfl) (by kernel_rfl) (fun _ _ _ h => h) (Or.inl ⟨by rfl, ?_⟩) hHeld ?_
      rotate_left
      · intro wS hSw
        go_simp
        all_goals with_reducible rfl
      simp only [Act.put, List.setIfInBounds_toArray, List.set_cons_zero, List.set_cons_succ]
      refine wpAnyT_take (i := 4) (v := ?_) [] (oi := { dst := some 76, op := Go.Op.load 23 (Go.Operand.tmp 75), type := 23, pos := "low.go:495", after := #[{ on := 3, ground := Go.Ground.data }], guard := none }) rfl (by kernel_rfl) (by kernel_rfl) (by kernel_rfl) (by kernel_rfl) (fun _ _ _ h => h) (Or.inl ⟨by rfl, ?_⟩) hHeld ?_
      rotate_left
      · intro wS hSw
        obtain ⟨u0, u1, u2, u3, u4, -⟩ := hSw.1.c
        have nn := cell_bel hSw.2.2.2 N4.out
        go_simp
        all_goals with_reducible rfl
      simp only [Act.put, List.setIfInBounds_toArray, List.set_cons_zero, List.set_cons_succ]
      refine wpAnyT_take (i := 5) (v := ?_) [] (oi := { dst := some 77, op := Go.Op.call { callee := Go.Callee.builtin Go.Builtin.len, args := #[Go.Operand.tmp 76], argTypes := #[23] }, type := 3, pos := "low.go:495", after := #[{ on := 4, ground := Go.Ground.data }], guard := none }) rfl (by kernel_rfl) (by kernel_rfl) (by kernel_rfl) (by kernel_rfl) (fun _ _ _ h => h) (Or.inl ⟨by rfl, ?_⟩) hHeld ?_
      rotate_left
      · intro wS hSw
        go_simp
        all_goals with_reducible rfl
      simp only [Act.put, List.setIfInBounds_toArray, List.set_cons_zero, List.set_cons_succ]
      refine wpAnyT_ready (rs := [6]) (by kernel_rfl) (by simp) ?_
      refine AllReadyT.cons (i := 6) (o := { dst := some 78, op := Go.Op.call { callee := Go.Callee.value (Go.Operand.func 49), args := #[Go.Operand.tmp 74, Go.Operand.tmp 77], argTypes := #[9, 3] }, type := 3, pos := "low.go:495", after := #[{ on := 2, ground := Go.Ground.data }, { on := 5, ground := Go.Ground.data }], guard := none }) rfl (fun K hK => ?_) ?_
      · go_simp
        refine (rplace_is _ s t.l.length l2).mono ?_
        rintro e w6q ⟨rfl, hb⟩
        rw [HP.out]
        have eo : optI (some 0) = (0 : Int) := rfl
        rw [eo]
        clear eo
        refine hK.out _ _ (hHeld.bel hb) (fun hHeld2 => ?_)
        clear hb
        clear hK K
        replace hHeld := hHeld2
        clear hHeld2
        try simp only [Act.put, List.setIfInBounds_toArray, List.set_cons_zero, List.set_cons_succ]
        refine wpAnyT_take (i := 7) (v := ?_) [] (oi := { dst := some 13, op := Go.Op.assign (Go.Operand.tmp 78), type := 3, pos := "low.go:495", after := #[{ on := 6, ground := Go.Ground.data }, { on := 6, ground := Go.Ground.chain }, { on := 0, ground := Go.Ground.phase }, { on := 1, ground := Go.Ground.phase }, { on := 2, ground := Go.Ground.phase }, { on := 3, ground := Go.Ground.phase }, { on := 4, ground := Go.Ground.phase }, { on := 5, ground := Go.Ground.phase }, { on := 6, ground := Go.Ground.phase }], guard := none }) rfl (by kernel_rfl) (by kernel_rfl) (by kernel_rfl) (by kernel_rfl) (fun _ _ _ h => h) (Or.inl ⟨by rfl, ?_⟩) hHeld ?_
        rotate_left
        · intro wS hSw
          go_simp
          all_goals with_reducible rfl
        simp only [Act.put, List.setIfInBounds_toArray, List.set_cons_zero, List.set_cons_succ]
        refine wpAnyT_done (by kernel_rfl) ?_ _
        have K2 := hidI hHeld
        clear hHeld
        have i0 : ¬ (0 : Int) < 0 := by omega
        go_upto_region 16 with fail
        have A0 : Hid (AL w t x a1 a2 a7 a8 c1 0 c7 c8 w6q.heap.size none 0 0 [] (w6q.alloc (.cells #[.int .i64 4, .int .i64 0, .string ⟨#[]⟩, .slice none 0 0, .slice none 0 0] 25))) := hidI ⟨⟨K2.out.bel (bel_alloc _ _), heap_alloc_new w6q _, by have := K2.out.big; omega⟩, World.ownsRow_nil _ _ _ _⟩
        have O0 := hidI (And.intro (show w6q.heap.size + 1 ≤ (w6q.alloc (.cells #[.int .i64 4, .int .i64 0, .string ⟨#[]⟩, .slice none 0 0, .slice none 0 0] 25)).drew.heap.size by simp) (A0.out.bel (bel_drewN _ 1)).2)
        have O0b := hidI A0.out.1
        have S1 := hidI (SL.out.1.bel ((A0.out.1.1.bel (bel_drewN _ 1)).2.2.2))
        refine wp_region_T (fun wS => AB w t x a1 a2 a7 a8 c1 0 c7 c8 w6q.heap.size none 0 0 wS) [8] (by kernel_rfl) ((O0b).out.bel (bel_drewN _ 1)) (fun hHeld => ?_)
        refine wpAnyT_take (i := 0) (v := ?_) [1, 6, 7, 8] (oi := { dst := some 83, op := Go.Op.fieldAddr 25 (Go.Operand.tmp 14) 4, type := 0, pos := "low.go:500", after := #[], guard := none }) rfl (by kernel_rfl) (by kernel_rfl) (by kernel_rfl) (by kernel_rfl) (fun _ _ _ h => h) (Or.inl ⟨by rfl, ?_⟩) hHeld ?_
        rotate_left
        · intro wS hSw
          go_simp
          all_goals with_reducible rfl
        simp only [Act.put, List.setIfInBounds_toArray, List.set_cons_zero, List.set_cons_succ]
        refine wpAnyT_take (i := 1) (v := ?_) [6, 7, 8] (oi := { dst := some 84, op := Go.Op.load 23 (Go.Operand.tmp 83), type := 23, pos := "low.go:500", after := #[{ on := 0, ground := Go.Ground.data }], guard := none }) rfl (by kernel_rfl) (by kernel_rfl) (by kernel_rfl) (by kernel_rfl) (fun _ _ _ h => h) (Or.inl ⟨by rfl, ?_⟩) hHeld ?_
        rotate_left
        · intro wS hSw
          obtain ⟨u0, u1, u2, u3, u4, -⟩ := hSw.1.1.c
          obtain ⟨v0, v1, v2, v3, v4, -⟩ := hSw.2.1.c
          go_simp
          all_goals with_reducible rfl
        simp only [Act.put, List.setIfInBounds_toArray, List.set_cons_zero, List.set_cons_succ]
        refine wpAnyT_take (i := 2) (v := ?_) [3, 5, 6, 7, 8] (oi := { dst := some 85, op := Go.Op.fieldAddr 25 (Go.Operand.tmp 5) 4, type := 0, pos := "low.go:500", after := #[], guard := none }) rfl (by kernel_rfl) (by kernel_rfl) (by kernel_rfl) (by kernel_rfl) (fun _ _ _ h => h) (Or.inl ⟨by rfl, ?_⟩) hHeld ?_
        rotate_left
        · intro wS hSw
          go_simp
          all_goals with_reducible rfl
        simp only [Act.put, List.setIfInBounds_toArray, List.set_cons_zero, List.set_cons_succ]
        refine wpAnyT_take (i := 3) (v := ?_) [5, 6, 7, 8] (oi := { dst := some 86, op := Go.Op.load 23 (Go.Operand.tmp 85), type := 23, pos := "low.go:500", after := #[{ on := 2, ground := Go.Ground.data }], guard := none }) rfl (by kernel_rfl) (by kernel_rfl) (by kernel_rfl) (by kernel_rfl) (fun _ _ _ h => h) (Or.inl ⟨by rfl, ?_⟩) hHeld ?_
        rotate_left
        · intro wS hSw
          obtain ⟨u0, u1, u2, u3, u4, -⟩ := hSw.1.1.c
          obtain ⟨v0, v1, v2, v3, v4, -⟩ := hSw.2.1.c
          go_simp
          all_goals with_reducible rfl
        simp only [Act.put, List.setIfInBounds_toArray, List.set_cons_zero, List.set_cons_succ]
        refine wpAnyT_take (i := 4) (v := ?_) [5, 6, 7, 8] (oi := { dst := some 87, op := Go.Op.move (Go.Operand.tmp 13), type := 3, pos := "low.go:500", after := #[], guard := none }) rfl (by kernel_rfl) (by kernel_rfl) (by kernel_rfl) (by kernel_rfl) (fun _ _ _ h => h) (Or.inl ⟨by rfl, ?_⟩) hHeld ?_
        rotate_left
        · intro wS hSw
          go_simp
          all_goals with_reducible rfl
        simp only [Act.put, List.setIfInBounds_toArray, List.set_cons_zero, List.set_cons_succ]
        refine wpAnyT_take (i := 5) (v := ?_) [6, 7, 8] (oi := { dst := some 88, op := Go.Op.slice 23 (Go.Operand.tmp 86) none (some (Go.Operand.tmp 87)) none, type := 23, pos := "low.go:500", after := #[{ on := 3, ground := Go.Ground.data }, { on := 4, ground := Go.Ground.data }], guard := none }) rfl (by kernel_rfl) (by kernel_rfl) (by kernel_rfl) (by kernel_rfl) (fun _ _ _ h => h) (Or.inl ⟨by rfl, ?_⟩) hHeld ?_
        rotate_left
        · intro wS hSw
          go_simp
          all_goals with_reducible rfl
        simp only [Act.put, List.setIfInBounds_toArray, List.set_cons_zero, List.set_cons_succ]
        refine wpAnyT_ready (rs := [6]) (by kernel_rfl) (by simp) ?_
        refine AllReadyT.cons (i := 6) (o := { dst := some 89, op := Go.Op.call { callee := Go.Callee.builtin Go.Builtin.append, args := #[Go.Operand.tmp 84, Go.Operand.tmp 88], argTypes := #[23, 23] }, type := 23, pos := "low.go:500", after := #[{ on := 1, ground := Go.Ground.data }, { on := 5, ground := Go.Ground.data }], guard := none }) rfl (fun K hK => ?_) ?_
        · refine step_run (by rfl) (.tmp 84) (.tmp 88) 23 (by rfl) _ _ (by rfl) (by rfl) _ (fun ty => run_joinV O0.out.2 S1.out (by omega) O0.out.1 ty) (fun v9 W9 hR => ?_)
          obtain ⟨ho9, hg9⟩ := hR
          obtain ⟨m16, hm9⟩ : ∃ m, 0 + 0 = m := ⟨_, rfl⟩
          rw [hm9] at ho9
          have Hm16 := hidI hm9
          clear hm9
          obtain ⟨la9, lc9, rfl, -, -, -, -⟩ := own_form ho9
          have O9 := hidI ho9
          have G9 := hidI hg9
          refine hK.out _ _ (hHeld.grown hg9 (fun k e => (O0.out.2.lt k e).1)) (fun hHeld2 => ?_)
          clear ho9 hg9
          clear hK K
          replace hHeld := hHeld2
          clear hHeld2
          try simp only [Act.put, List.setIfInBounds_toArray, List.set_cons_zero, List.set_cons_succ]
          refine wpAnyT_take (i := 7) (v := ?_) [8] (oi := { dst := some 90, op := Go.Op.fieldAddr 25 (Go.Operand.tmp 14) 4, type := 0, pos := "low.go:500", after := #[{ on := 0, ground := Go.Ground.phase }, { on := 1, ground := Go.Ground.phase }, { on := 2, ground := Go.Ground.phase }, { on := 3, ground := Go.Ground.phase }, { on := 4, ground := Go.Ground.phase }, { on := 5, ground := Go.Ground.phase }, { on := 6, ground := Go.Ground.phase }], guard := none }) rfl (by kernel_rfl) (by kernel_rfl) (by kernel_rfl) (by kernel_rfl) (fun _ _ _ h => h) (Or.inl ⟨by rfl, ?_⟩) hHeld ?_
          rotate_left
          · intro wS hSw
            go_simp
            all_goals with_reducible rfl
          simp only [Act.put, List.setIfInBounds_toArray, List.set_cons_zero, List.set_cons_succ]
          obtain ⟨o0, o1, o2, o3, o4, f0, f1, f2, f3, f4⟩ := hHeld.2.1.c
          clear hHeld
          refine wpAnyT_last (i := 8) (o := { dst := none, op := Go.Op.store 23 (Go.Operand.tmp 90) (Go.Operand.tmp 89), type := 0, pos := "low.go:500", after := #[{ on := 7, ground := Go.Ground.data }, { on := 6, ground := Go.Ground.data }, { on := 6, ground := Go.Ground.chain }, { on := 0, ground := Go.Ground.phase }, { on := 1, ground := Go.Ground.phase }, { on := 2, ground := Go.Ground.phase }, { on := 3, ground := Go.Ground.phase }, { on := 4, ground := Go.Ground.phase }, { on := 5, ground := Go.Ground.phase }, { on := 6, ground := Go.Ground.phase }], guard := none }) (by kernel_rfl) (by rfl) rfl (fun K hK => ?_)
          go_simp
          refine hK.out _ _ ?_
          clear hK K
          try simp only [Act.put, List.setIfInBounds_toArray, List.set_cons_zero, List.set_cons_succ]
          refine wpAnyT_done (by kernel_rfl) ?_ _
          obtain ⟨W16, hW16⟩ : ∃ W, W9.setCell ⟨w6q.heap.size, 4, none⟩ (.slice la9 m16 lc9) = W := ⟨_, rfl⟩
          rw [hW16]
          have A16 : Hid (AL w t x a1 a2 a7 a8 c1 0 c7 c8 w6q.heap.size la9 m16 lc9 _ W16) := hidI (by rw [← hW16]; exact (A0.out.bel (bel_drewN _ 1)).push O9.out G9.out)
          clear hW16 O9 G9 A0 O0 O0b S1
          obtain ⟨gg, cap, W17, hR17, ho17, hg17, -⟩ := run_pushV (A16.out.2.alloc (.cells #[.int .i64 x.kind, .int .i64 x.n, .string ⟨x.s.toArray⟩, .slice a7 x.keys.length c7, .slice a8 x.l.length c8] 25)) (heap_alloc_new W16 _) (by have := Hm16.out; omega) (by have := A16.out.lt; simp; omega) 23
          have B17 := hidI (A16.out.1.grown (gb_trans (World.grownBy_alloc W16 _ _) hg17) (fun k e => (A16.out.2.lt k e).1))
          obtain ⟨u0, u1, u2, u3, u4, -⟩ := A16.out.1.1.2.1.c
          obtain ⟨v0, v1, v2, v3, v4, -⟩ := A16.out.1.2.1.c
          obtain ⟨o0, o1, o2, o3, o4, f0, f1, f2, f3, f4⟩ := B17.out.2.1.c
          obtain ⟨W18, hW18⟩ : ∃ W, W17.setCell ⟨w6q.heap.size, 4, none⟩ (.slice (some ⟨gg, 0, none⟩) (m16 + 1) cap) = W := ⟨_, rfl⟩
          have A17 : Hid (AL w t x a1 a2 a7 a8 c1 0 c7 c8 w6q.heap.size (some ⟨gg, 0, none⟩) (m16 + 1) cap _ W18) := hidI (by rw [← hW18]; exact A16.out.push ho17 (gb_trans (World.grownBy_alloc W16 _ _) hg17))
          clear ho17 hg17 B17 A16
          go_upto_region 18 with (at_builtin; go_must (refine Lib.wpList_append_run _ rfl _ _ _ _ rfl (.slice la9 m16 lc9) (.slice (some ⟨W16.heap.size, 0, none⟩) 1 1) rfl rfl _ _ hR17 ?_))
          try rw [hW18]
          clear hW18 hR17 u0 u1 u2 u3 u4 v0 v1 v2 v3 v4 o0 o1 o2 o3 o4 f0 f1 f2 f3 f4
          have O17 := hidI (And.intro (show w6q.heap.size + 1 ≤ W18.drew.heap.size by have := A17.out.lt; simpa using this) (A17.out.bel (bel_drewN _ 1)).2)
          have O17b := hidI A17.out.1
          have S3 := hidI (SL.out.2.bel ((A17.out.1.1.bel (bel_drewN _ 1)).2.2.2))
          refine wp_region_T (fun wS => AB w t x a1 a2 a7 a8 c1 0 c7 c8 w6q.heap.size (some ⟨gg, 0, none⟩) (m16 + 1) cap wS) [8] (by kernel_rfl) ((O17b).out.bel (bel_drewN _ 1)) (fun hHeld => ?_)
          refine wpAnyT_take (i := 0) (v := ?_) [1, 6, 7, 8] (oi := { dst := some 97, op := Go.Op.fieldAddr 25 (Go.Operand.tmp 14) 4, type := 0, pos := "low.go:502", after := #[], guard := none }) rfl (by kernel_rfl) (by kernel_rfl) (by kernel_rfl) (by kernel_rfl) (fun _ _ _ h => h) (Or.inl ⟨by rfl, ?_⟩) hHeld ?_
          rotate_left
          · intro wS hSw
            go_simp
            all_goals with_reducible rfl
          simp only [Act.put, List.setIfInBounds_toArray, List.set_cons_zero, List.set_cons_succ]
          refine wpAnyT_take (i := 1) (v := ?_) [6, 7, 8] (oi := { dst := some 98, op := Go.Op.load 23 (Go.Operand.tmp 97), type := 23, pos := "low.go:502", after := #[{ on := 0, ground := Go.Ground.data }], guard := none }) rfl (by kernel_rfl) (by kernel_rfl) (by kernel_rfl) (by kernel_rfl) (fun _ _ _ h => h) (Or.inl ⟨by rfl, ?_⟩) hHeld ?_
          rotate_left
          · intro wS hSw
            obtain ⟨u0, u1, u2, u3, u4, -⟩ := hSw.1.1.c
            obtain ⟨v0, v1, v2, v3, v4, -⟩ := hSw.2.1.c
            go_simp
            all_goals with_reducible rfl
          simp only [Act.put, List.setIfInBounds_toArray, List.set_cons_zero, List.set_cons_succ]
          refine wpAnyT_take (i := 2) (v := ?_) [3, 5, 6, 7, 8] (oi := { dst := some 99, op := Go.Op.fieldAddr 25 (Go.Operand.tmp 5) 4, type := 0, pos := "low.go:502", after := #[], guard := none }) rfl (by kernel_rfl) (by kernel_rfl) (by kernel_rfl) (by kernel_rfl) (fun _ _ _ h => h) (Or.inl ⟨by rfl, ?_⟩) hHeld ?_
          rotate_left
          · intro wS hSw
            go_simp
            all_goals with_reducible rfl
          simp only [Act.put, List.setIfInBounds_toArray, List.set_cons_zero, List.set_cons_succ]
          refine wpAnyT_take (i := 3) (v := ?_) [5, 6, 7, 8] (oi := { dst := some 100, op := Go.Op.load 23 (Go.Operand.tmp 99), type := 23, pos := "low.go:502", after := #[{ on := 2, ground := Go.Ground.data }], guard := none }) rfl (by kernel_rfl) (by kernel_rfl) (by kernel_rfl) (by kernel_rfl) (fun _ _ _ h => h) (Or.inl ⟨by rfl, ?_⟩) hHeld ?_
          rotate_left
          · intro wS hSw
            obtain ⟨u0, u1, u2, u3, u4, -⟩ := hSw.1.1.c
            obtain ⟨v0, v1, v2, v3, v4, -⟩ := hSw.2.1.c
            go_simp
            all_goals with_reducible rfl
          simp only [Act.put, List.setIfInBounds_toArray, List.set_cons_zero, List.set_cons_succ]
          refine wpAnyT_take (i := 4) (v := ?_) [5, 6, 7, 8] (oi := { dst := some 101, op := Go.Op.move (Go.Operand.tmp 13), type := 3, pos := "low.go:502", after := #[], guard := none }) rfl (by kernel_rfl) (by kernel_rfl) (by kernel_rfl) (by kernel_rfl) (fun _ _ _ h => h) (Or.inl ⟨by rfl, ?_⟩) hHeld ?_
          rotate_left
          · intro wS hSw
            go_simp
            all_goals with_reducible rfl
          simp only [Act.put, List.setIfInBounds_toArray, List.set_cons_zero, List.set_cons_succ]
          refine wpAnyT_take (i := 5) (v := ?_) [6, 7, 8] (oi := { dst := some 102, op := Go.Op.slice 23 (Go.Operand.tmp 100) (some (Go.Operand.tmp 101)) none none, type := 23, pos := "low.go:502", after := #[{ on := 3, ground := Go.Ground.data }, { on := 4, ground := Go.Ground.data }], guard := none }) rfl (by kernel_rfl) (by kernel_rfl) (by kernel_rfl) (by kernel_rfl) (fun _ _ _ h => h) (Or.inl ⟨by rfl, ?_⟩) hHeld ?_
          rotate_left
          · intro wS hSw
            go_simp
            all_goals with_reducible rfl
          simp only [Act.put, List.setIfInBounds_toArray, List.set_cons_zero, List.set_cons_succ]
          refine wpAnyT_ready (rs := [6]) (by kernel_rfl) (by simp) ?_
          refine AllReadyT.cons (i := 6) (o := { dst := some 103, op := Go.Op.call { callee := Go.Callee.builtin Go.Builtin.append, args := #[Go.Operand.tmp 98, Go.Operand.tmp 102], argTypes := #[23, 23] }, type := 23, pos := "low.go:502", after := #[{ on := 1, ground := Go.Ground.data }, { on := 5, ground := Go.Ground.data }], guard := none }) rfl (fun K hK => ?_) ?_
          · refine step_run (by rfl) (.tmp 98) (.tmp 102) 23 (by rfl) _ _ (by rfl) (by rfl) _ (fun ty => run_joinV O17.out.2 S3.out (by have := Hm16.out; omega) O17.out.1 ty) (fun v9 W9 hR => ?_)
            obtain ⟨ho9, hg9⟩ := hR
            obtain ⟨m18, hm9⟩ : ∃ m, m16 + 1 + (t.l.length - 0) = m := ⟨_, rfl⟩
            rw [hm9] at ho9
            have Hm18 := hidI hm9
            clear hm9
            obtain ⟨la9, lc9, rfl, -, -, -, -⟩ := own_form ho9
            have O9 := hidI ho9
            have G9 := hidI hg9
            refine hK.out _ _ (hHeld.grown hg9 (fun k e => (O17.out.2.lt k e).1)) (fun hHeld2 => ?_)
            clear ho9 hg9
            clear hK K
            replace hHeld := hHeld2
            clear hHeld2
            try simp only [Act.put, List.setIfInBounds_toArray, List.set_cons_zero, List.set_cons_succ]
            refine wpAnyT_take (i := 7) (v := ?_) [8] (oi := { dst := some 104, op := Go.Op.fieldAddr 25 (Go.Operand.tmp 14) 4, type := 0, pos := "low.go:502", after := #[{ on := 0, ground := Go.Ground.phase }, { on := 1, ground := Go.Ground.phase }, { on := 2, ground := Go.Ground.phase }, { on := 3, ground := Go.Ground.phase }, { on := 4, ground := Go.Ground.phase }, { on := 5, ground := Go.Ground.phase }, { on := 6, ground := Go.Ground.phase }], guard := none }) rfl (by kernel_rfl) (by kernel_rfl) (by kernel_rfl) (by kernel_rfl) (fun _ _ _ h => h) (Or.inl ⟨by rfl, ?_⟩) hHeld ?_
            rotate_left
            · intro wS hSw
              go_simp
              all_goals with_reducible rfl
            simp only [Act.put, List.setIfInBounds_toArray, List.set_cons_zero, List.set_cons_succ]
            obtain ⟨o0, o1, o2, o3, o4, f0, f1, f2, f3, f4⟩ := hHeld.2.1.c
            clear hHeld
            refine wpAnyT_last (i := 8) (o := { dst := none, op := Go.Op.store 23 (Go.Operand.tmp 104) (Go.Operand.tmp 103), type := 0, pos := "low.go:502", after := #[{ on := 7, ground := Go.Ground.data }, { on := 6, ground := Go.Ground.data }, { on := 6, ground := Go.Ground.chain }, { on := 0, ground := Go.Ground.phase }, { on := 1, ground := Go.Ground.phase }, { on := 2, ground := Go.Ground.phase }, { on := 3, ground := Go.Ground.phase }, { on := 4, ground := Go.Ground.phase }, { on := 5, ground := Go.Ground.phase }, { on := 6, ground := Go.Ground.phase }], guard := none }) (by kernel_rfl) (by rfl) rfl (fun K hK => ?_)
            go_simp
            refine hK.out _ _ ?_
            clear hK K
            try simp only [Act.put, List.setIfInBounds_toArray, List.set_cons_zero, List.set_cons_succ]
            refine wpAnyT_done (by kernel_rfl) ?_ _
            obtain ⟨W18, hW18⟩ : ∃ W, W9.setCell ⟨w6q.heap.size, 4, none⟩ (.slice la9 m18 lc9) = W := ⟨_, rfl⟩
            rw [hW18]
            have A18 : Hid (AL w t x a1 a2 a7 a8 c1 0 c7 c8 w6q.heap.size la9 m18 lc9 _ W18) := hidI (by rw [← hW18]; exact (A17.out.bel (bel_drewN _ 1)).push O9.out G9.out)
            clear hW18 O9 G9 A17 O17 O17b S3
            have hlen : m18 = (t.l.take 0 ++ x :: t.l.drop 0).length := by have := Hm18.out; have := Hm16.out; simp; omega
            have R := hidI (A18.out.fin (ok := ok) RW.out hlen (by rw [← hlen]; have := Hm18.out; have := Hm16.out; omega))
            clear hlen
            obtain ⟨u0, u1, u2, u3, u4, -⟩ := A18.out.1.2.1.c
            obtain ⟨o0, o1, o2, o3, o4, f0, f1, f2, f3, f4⟩ := A18.out.1.1.2.2.1.c
            go_wp2_with fail
            obtain ⟨r1, r2, r3⟩ := R.out
            obtain ⟨z0, z1, z2, z3, z4, -⟩ := r3.c
            refine bodyPost_ret (v := .tuple #[.agg #[.int .i64 4, .int .i64 0, .string ⟨#[]⟩, .slice none 0 0, .slice la9 m18 lc9], .int .i64 0]) ?_ rfl ?_
            · simp only [set5] at z0 z1 z2 z3 z4
              simp [results, Tryd.results31, go_sem, z0, z1, z2, z3, z4]
            · exact ⟨_, rfl, r1, by first | (rw [LI.out]; exact r2) | (have h9 := LI.out; simp only [List.take_zero, List.drop_zero, List.nil_append] at h9 r2 ⊢; rw [h9]; exact r2) | (have h9 := LI.out; simp at h9 r2 ⊢; rw [h9]; exact r2)⟩
          exact AllReadyT.nil
        exact AllReadyT.nil
      exact AllReadyT.nil
    · obtain ⟨a3, hifs⟩ : ∃ a3, (if c2 = i then (some ⟨b, off, none⟩ : Option Addr) else some ⟨b, off + i * 5, none⟩) = a3 := ⟨_, rfl⟩
      rw [hifs] at hv3
      subst hv3
      clear HC
      have j5 : (i : Int) ≤ (c2 : Int) := by omega
      have j6 : (t.l.length : Int) ≤ (c2 : Int) := by omega
      obtain ⟨p0, p1, p2, p3, p4, -⟩ := K.out.1.c
      obtain ⟨q0, q1, q2, q3, q4, -⟩ := K.out.2.1.c
      obtain ⟨x0, x1, x2, x3, x4, y0, y1, y2, y3, y4⟩ := K.out.2.2.1.c
      clear p0 p1 p2 p3 p4 q0 q1 q2 q3 q4 x0 x1 x2 x3 x4 y0 y1 y2 y3 y4
      obtain ⟨p0, p1, p2, p3, p4, -⟩ := K.out.1.c
      go_upto_region 12 with fail
      clear p0 p1 p2 p3 p4
      refine wp_region_T (fun wS => KA w t x a1 (some ⟨b, off, none⟩) a7 a8 c1 c2 c7 c8 wS) [] (by kernel_rfl) (K.out.bel (bel_drewN _ 1)) (fun hHeld => ?_)
      refine wpAnyT_take (i := 0) (v := ?_) [] (oi := { dst := some 72, op := Go.Op.move (Go.Operand.tmp 2), type := 22, pos := "low.go:495", after := #[], guard := none }) rfl (by kernel_rfl) (by kernel_rfl) (by kernel_rfl) (by kernel_rfl) (fun _ _ _ h => h) (Or.inl ⟨by rfl, ?_⟩) hHeld ?_
      rotate_left
      · intro wS hSw
        go_simp
        all_goals with_reducible rfl
      simp only [Act.put, List.setIfInBounds_toArray, List.set_cons_zero, List.set_cons_succ]
      refine wpAnyT_take (i := 1) (v := ?_) [] (oi := { dst := some 73, op := Go.Op.indexAddr 22 (Go.Operand.tmp 72) (Go.Operand.const (Go.Value.int Go.IntKind.i64 0)), type := 0, pos := "low.go:495", after := #[{ on := 0, ground := Go.Ground.data }], guard := none }) rfl (by kernel_rfl) (by kernel_rfl) (by kernel_rfl) (by kernel_rfl) (fun _ _ _ h => h) (Or.inl ⟨by rfl, ?_⟩) hHeld ?_
      rotate_left
      · intro wS hSw
        go_simp
        all_goals with_reducible rfl
      simp only [Act.put, List.setIfInBounds_toArray, List.set_cons_zero, List.set_cons_succ]
      refine wpAnyT_take (i := 2) (v := ?_) [] (oi := { dst := some 74, op := Go.Op.load 9 (Go.Operand.tmp 73), type := 9, pos := "low.go:495", after := #[{ on := 1, ground := Go.Ground.data }], guard := none }) rfl (by kernel_rfl) (by kernel_rfl) (by kernel_rfl) (by kernel_rfl) (fun _ _ _ h => h) (Or.inl ⟨by rfl, ?_⟩) hHeld ?_
      rotate_left
      · intro wS hSw
        obtain ⟨u0, u1, u2, u3, u4, -⟩ := hSw.1.c
        have nn := cell_bel hSw.2.2.2 N4.out
        go_simp
        all_goals with_reducible rfl
      simp only [Act.put, List.setIfInBounds_toArray, List.set_cons_zero, List.set_cons_succ]
      refine wpAnyT_take (i := 3) (v := ?_) [] (oi := { dst := some 75, op := Go.Op.fieldAddr 25 (Go.Operand.tmp 5) 4, type := 0, pos := "low.go:495", after := #[], guard := none }) rfl (by kernel_rfl) (by kernel_rfl) (by kernel_rfl) (by kernel_rfl) (fun _ _ _ h => h) (Or.inl ⟨by rfl, ?_⟩) hHeld ?_
      rotate_left
      · intro wS hSw
        go_simp
        all_goals with_reducible rfl
      simp only [Act.put, List.setIfInBounds_toArray, List.set_cons_zero, List.set_cons_succ]
      refine wpAnyT_take (i := 4) (v := ?_) [] (oi := { dst := some 76, op := Go.Op.load 23 (Go.Operand.tmp 75), type := 23, pos := "low.go:495", after := #[{ on := 3, ground := Go.Ground.data }], guard := none }) rfl (by kernel_rfl) (by kernel_rfl) (by kernel_rfl) (by kernel_rfl) (fun _ _ _ h => h) (Or.inl ⟨by rfl, ?_⟩) hHeld ?_
      rotate_left
      · intro wS hSw
        obtain ⟨u0, u1, u2, u3, u4, -⟩ := hSw.1.c
        have nn := cell_bel hSw.2.2.2 N4.out
        go_simp
        all_goals with_reducible rfl
      simp only [Act.put, List.setIfInBounds_toArray, List.set_cons_zero, List.set_cons_succ]
      refine wpAnyT_take (i := 5) (v := ?_) [] (oi := { dst := some 77, op := Go.Op.call { callee := Go.Callee.builtin Go.Builtin.len, args := #[Go.Operand.tmp 76], argTypes := #[23] }, type := 3, pos := "low.go:495", after := #[{ on := 4, ground := Go.Ground.data }], guard := none }) rfl (by kernel_rfl) (by kernel_rfl) (by kernel_rfl) (by kernel_rfl) (fun _ _ _ h => h) (Or.inl ⟨by rfl, ?_⟩) hHeld ?_
      rotate_left
      · intro wS hSw
        go_simp
        all_goals with_reducible rfl
      simp only [Act.put, List.setIfInBounds_toArray, List.set_cons_zero, List.set_cons_succ]
      refine wpAnyT_ready (rs := [6]) (by kernel_rfl) (by simp) ?_
      refine AllReadyT.cons (i := 6) (o := { dst := some 78, op := Go.Op.call { callee := Go.Callee.value (Go.Operand.func 49), args := #[Go.Operand.tmp 74, Go.Operand.tmp 77], argTypes := #[9, 3] }, type := 3, pos := "low.go:495", after := #[{ on := 2, ground := Go.Ground.data }, { on := 5, ground := Go.Ground.data }], guard := none }) rfl (fun K hK => ?_) ?_
      · go_simp
        refine (rplace_is _ s t.l.length l2).mono ?_
        rintro e w6q ⟨rfl, hb⟩
        rw [HP.out]
        have eo : optI (some i) = (i : Int) := rfl
        rw [eo]
        clear eo
        refine hK.out _ _ (hHeld.bel hb) (fun hHeld2 => ?_)
        clear hb
        clear hK K
        replace hHeld := hHeld2
        clear hHeld2
        try simp only [Act.put, List.setIfInBounds_toArray, List.set_cons_zero, List.set_cons_succ]
        refine wpAnyT_take (i := 7) (v := ?_) [] (oi := { dst := some 13, op := Go.Op.assign (Go.Operand.tmp 78), type := 3, pos := "low.go:495", after := #[{ on := 6, ground := Go.Ground.data }, { on := 6, ground := Go.Ground.chain }, { on := 0, ground := Go.Ground.phase }, { on := 1, ground := Go.Ground.phase }, { on := 2, ground := Go.Ground.phase }, { on := 3, ground := Go.Ground.phase }, { on := 4, ground := Go.Ground.phase }, { on := 5, ground := Go.Ground.phase }, { on := 6, ground := Go.Ground.phase }], guard := none }) rfl (by kernel_rfl) (by kernel_rfl) (by kernel_rfl) (by kernel_rfl) (fun _ _ _ h => h) (Or.inl ⟨by rfl, ?_⟩) hHeld ?_
        rotate_left
        · intro wS hSw
          go_simp
          all_goals with_reducible rfl
        simp only [Act.put, List.setIfInBounds_toArray, List.set_cons_zero, List.set_cons_succ]
        refine wpAnyT_done (by kernel_rfl) ?_ _
        have K2 := hidI hHeld
        clear hHeld
        have i0 : ¬ (i : Int) < 0 := by omega
        go_upto_region 16 with fail
        have A0 : Hid (AL w t x a1 (some ⟨b, off, none⟩) a7 a8 c1 c2 c7 c8 w6q.heap.size none 0 0 [] (w6q.alloc (.cells #[.int .i64 4, .int .i64 0, .string ⟨#[]⟩, .slice none 0 0, .slice none 0 0] 25))) := hidI ⟨⟨K2.out.bel (bel_alloc _ _), heap_alloc_new w6q _, by have := K2.out.big; omega⟩, World.ownsRow_nil _ _ _ _⟩
        have O0 := hidI (And.intro (show w6q.heap.size + 1 ≤ (w6q.alloc (.cells #[.int .i64 4, .int .i64 0, .string ⟨#[]⟩, .slice none 0 0, .slice none 0 0] 25)).drew.heap.size by simp) (A0.out.bel (bel_drewN _ 1)).2)
        have O0b := hidI A0.out.1
        have S1 := hidI (SL.out.1.bel ((A0.out.1.1.bel (bel_drewN _ 1)).2.2.2))
        refine wp_region_T (fun wS => AB w t x a1 (some ⟨b, off, none⟩) a7 a8 c1 c2 c7 c8 w6q.heap.size none 0 0 wS) [8] (by kernel_rfl) ((O0b).out.bel (bel_drewN _ 1)) (fun hHeld => ?_)
        refine wpAnyT_take (i := 0) (v := ?_) [1, 6, 7, 8] (oi := { dst := some 83, op := Go.Op.fieldAddr 25 (Go.Operand.tmp 14) 4, type := 0, pos := "low.go:500", after := #[], guard := none }) rfl (by kernel_rfl) (by kernel_rfl) (by kernel_rfl) (by kernel_rfl) (fun _ _ _ h => h) (Or.inl ⟨by rfl, ?_⟩) hHeld ?_
        rotate_left
        · intro wS hSw
          go_simp
          all_goals with_reducible rfl
        simp only [Act.put, List.setIfInBounds_toArray, List.set_cons_zero, List.set_cons_succ]
        refine wpAnyT_take (i := 1) (v := ?_) [6, 7, 8] (oi := { dst := some 84, op := Go.Op.load 23 (Go.Operand.tmp 83), type := 23, pos := "low.go:500", after := #[{ on := 0, ground := Go.Ground.data }], guard := none }) rfl (by kernel_rfl) (by kernel_rfl) (by kernel_rfl) (by kernel_rfl) (fun _ _ _ h => h) (Or.inl ⟨by rfl, ?_⟩) hHeld ?_
        rotate_left
        · intro wS hSw
          obtain ⟨u0, u1, u2, u3, u4, -⟩ := hSw.1.1.c
          obtain ⟨v0, v1, v2, v3, v4, -⟩ := hSw.2.1.c
          go_simp
          all_goals with_reducible rfl
        simp only [Act.put, List.setIfInBounds_toArray, List.set_cons_zero, List.set_cons_succ]
        refine wpAnyT_take (i := 2) (v := ?_) [3, 5, 6, 7, 8] (oi := { dst := some 85, op := Go.Op.fieldAddr 25 (Go.Operand.tmp 5) 4, type := 0, pos := "low.go:500", after := #[], guard := none }) rfl (by kernel_rfl) (by kernel_rfl) (by kernel_rfl) (by kernel_rfl) (fun _ _ _ h => h) (Or.inl ⟨by rfl, ?_⟩) hHeld ?_
        rotate_left
        · intro wS hSw
          go_simp
          all_goals with_reducible rfl
        simp only [Act.put, List.setIfInBounds_toArray, List.set_cons_zero, List.set_cons_succ]
        refine wpAnyT_take (i := 3) (v := ?_) [5, 6, 7, 8] (oi := { dst := some 86, op := Go.Op.load 23 (Go.Operand.tmp 85), type := 23, pos := "low.go:500", after := #[{ on := 2, ground := Go.Ground.data }], guard := none }) rfl (by kernel_rfl) (by kernel_rfl) (by kernel_rfl) (by kernel_rfl) (fun _ _ _ h => h) (Or.inl ⟨by rfl, ?_⟩) hHeld ?_
        rotate_left
        · intro wS hSw
          obtain ⟨u0, u1, u2, u3, u4, -⟩ := hSw.1.1.c
          obtain ⟨v0, v1, v2, v3, v4, -⟩ := hSw.2.1.c
          go_simp
          all_goals with_reducible rfl
        simp only [Act.put, List.setIfInBounds_toArray, List.set_cons_zero, List.set_cons_succ]
        refine wpAnyT_take (i := 4) (v := ?_) [5, 6, 7, 8] (oi := { dst := some 87, op := Go.Op.move (Go.Operand.tmp 13), type := 3, pos := "low.go:500", after := #[], guard := none }) rfl (by kernel_rfl) (by kernel_rfl) (by kernel_rfl) (by kernel_rfl) (fun _ _ _ h => h) (Or.inl ⟨by rfl, ?_⟩) hHeld ?_
        rotate_left
        · intro wS hSw
          go_simp
          all_goals with_reducible rfl
        simp only [Act.put, List.setIfInBounds_toArray, List.set_cons_zero, List.set_cons_succ]
        refine wpAnyT_take (i := 5) (v := ?_) [6, 7, 8] (oi := { dst := some 88, op := Go.Op.slice 23 (Go.Operand.tmp 86) none (some (Go.Operand.tmp 87)) none, type := 23, pos := "low.go:500", after := #[{ on := 3, ground := Go.Ground.data }, { on := 4, ground := Go.Ground.data }], guard := none }) rfl (by kernel_rfl) (by kernel_rfl) (by kernel_rfl) (by kernel_rfl) (fun _ _ _ h => h) (Or.inl ⟨by rfl, ?_⟩) hHeld ?_
        rotate_left
        · intro wS hSw
          go_simp
          all_goals with_reducible rfl
        simp only [Act.put, List.setIfInBounds_toArray, List.set_cons_zero, List.set_cons_succ]
        refine wpAnyT_ready (rs := [6]) (by kernel_rfl) (by simp) ?_
        refine AllReadyT.cons (i := 6) (o := { dst := some 89, op := Go.Op.call { callee := Go.Callee.builtin Go.Builtin.append, args := #[Go.Operand.tmp 84, Go.Operand.tmp 88], argTypes := #[23, 23] }, type := 23, pos := "low.go:500", after := #[{ on := 1, ground := Go.Ground.data }, { on := 5, ground := Go.Ground.data }], guard := none }) rfl (fun K hK => ?_) ?_
        · refine step_run (by rfl) (.tmp 84) (.tmp 88) 23 (by rfl) _ _ (by rfl) (by rfl) _ (fun ty => run_joinV O0.out.2 S1.out (by omega) O0.out.1 ty) (fun v9 W9 hR => ?_)
          obtain ⟨ho9, hg9⟩ := hR
          obtain ⟨m16, hm9⟩ : ∃ m, 0 + i = m := ⟨_, rfl⟩
          rw [hm9] at ho9
          have Hm16 := hidI hm9
          clear hm9
          obtain ⟨la9, lc9, rfl, -, -, -, -⟩ := own_form ho9
          have O9 := hidI ho9
          have G9 := hidI hg9
          refine hK.out _ _ (hHeld.grown hg9 (fun k e => (O0.out.2.lt k e).1)) (fun hHeld2 => ?_)
          clear ho9 hg9
          clear hK K
          replace hHeld := hHeld2
          clear hHeld2
          try simp only [Act.put, List.setIfInBounds_toArray, List.set_cons_zero, List.set_cons_succ]
          refine wpAnyT_take (i := 7) (v := ?_) [8] (oi := { dst := some 90, op := Go.Op.fieldAddr 25 (Go.Operand.tmp 14) 4, type := 0, pos := "low.go:500", after := #[{ on := 0, ground := Go.Ground.phase }, { on := 1, ground := Go.Ground.phase }, { on := 2, ground := Go.Ground.phase }, { on := 3, ground := Go.Ground.phase }, { on := 4, ground := Go.Ground.phase }, { on := 5, ground := Go.Ground.phase }, { on := 6, ground := Go.Ground.phase }], guard := none }) rfl (by kernel_rfl) (by kernel_rfl) (by kernel_rfl) (by kernel_rfl) (fun _ _ _ h => h) (Or.inl ⟨by rfl, ?_⟩) hHeld ?_
          rotate_left
          · intro wS hSw
            go_simp
            all_goals with_reducible rfl
          simp only [Act.put, List.setIfInBounds_toArray, List.set_cons_zero, List.set_cons_succ]
          obtain ⟨o0, o1, o2, o3, o4, f0, f1, f2, f3, f4⟩ := hHeld.2.1.c
          clear hHeld
          refine wpAnyT_last (i := 8) (o := { dst := none, op := Go.Op.store 23 (Go.Operand.tmp 90) (Go.Operand.tmp 89), type := 0, pos := "low.go:500", after := #[{ on := 7, ground := Go.Ground.data }, { on := 6, ground := Go.Ground.data }, { on := 6, ground := Go.Ground.chain }, { on := 0, ground := Go.Ground.phase }, { on := 1, ground := Go.Ground.phase }, { on := 2, ground := Go.Ground.phase }, { on := 3, ground := Go.Ground.phase }, { on := 4, ground := Go.Ground.phase }, { on := 5, ground := Go.Ground.phase }, { on := 6, ground := Go.Ground.phase }], guard := none }) (by kernel_rfl) (by rfl) rfl (fun K hK => ?_)
          go_simp
          refine hK.out _ _ ?_
          clear hK K
          try simp only [Act.put, List.setIfInBounds_toArray, List.set_cons_zero, List.set_cons_succ]
          refine wpAnyT_done (by kernel_rfl) ?_ _
          obtain ⟨W16, hW16⟩ : ∃ W, W9.setCell ⟨w6q.heap.size, 4, none⟩ (.slice la9 m16 lc9) = W := ⟨_, rfl⟩
          rw [hW16]
          have A16 : Hid (AL w t x a1 (some ⟨b, off, none⟩) a7 a8 c1 c2 c7 c8 w6q.heap.size la9 m16 lc9 _ W16) := hidI (by rw [← hW16]; exact (A0.out.bel (bel_drewN _ 1)).push O9.out G9.out)
          clear hW16 O9 G9 A0 O0 O0b S1
          obtain ⟨gg, cap, W17, hR17, ho17, hg17, -⟩ := run_pushV (A16.out.2.alloc (.cells #[.int .i64 x.kind, .int .i64 x.n, .string ⟨x.s.toArray⟩, .slice a7 x.keys.length c7, .slice a8 x.l.length c8] 25)) (heap_alloc_new W16 _) (by have := Hm16.out; omega) (by have := A16.out.lt; simp; omega) 23
          have B17 := hidI (A16.out.1.grown (gb_trans (World.grownBy_alloc W16 _ _) hg17) (fun k e => (A16.out.2.lt k e).1))
          obtain ⟨u0, u1, u2, u3, u4, -⟩ := A16.out.1.1.2.1.c
          obtain ⟨v0, v1, v2, v3, v4, -⟩ := A16.out.1.2.1.c
          obtain ⟨o0, o1, o2, o3, o4, f0, f1, f2, f3, f4⟩ := B17.out.2.1.c
          obtain ⟨W18, hW18⟩ : ∃ W, W17.setCell ⟨w6q.heap.size, 4, none⟩ (.slice (some ⟨gg, 0, none⟩) (m16 + 1) cap) = W := ⟨_, rfl⟩
          have A17 : Hid (AL w t x a1 (some ⟨b, off, none⟩) a7 a8 c1 c2 c7 c8 w6q.heap.size (some ⟨gg, 0, none⟩) (m16 + 1) cap _ W18) := hidI (by rw [← hW18]; exact A16.out.push ho17 (gb_trans (World.grownBy_alloc W16 _ _) hg17))
          clear ho17 hg17 B17 A16
          go_upto_region 18 with (at_builtin; go_must (refine Lib.wpList_append_run _ rfl _ _ _ _ rfl (.slice la9 m16 lc9) (.slice (some ⟨W16.heap.size, 0, none⟩) 1 1) rfl rfl _ _ hR17 ?_))
          try rw [hW18]
          clear hW18 hR17 u0 u1 u2 u3 u4 v0 v1 v2 v3 v4 o0 o1 o2 o3 o4 f0 f1 f2 f3 f4
          have O17 := hidI (And.intro (show w6q.heap.size + 1 ≤ W18.drew.heap.size by have := A17.out.lt; simpa using this) (A17.out.bel (bel_drewN _ 1)).2)
          have O17b := hidI A17.out.1
          have S3 := hidI (SL.out.2.bel ((A17.out.1.1.bel (bel_drewN _ 1)).2.2.2))
          refine wp_region_T (fun wS => AB w t x a1 (some ⟨b, off, none⟩) a7 a8 c1 c2 c7 c8 w6q.heap.size (some ⟨gg, 0, none⟩) (m16 + 1) cap wS) [8] (by kernel_rfl) ((O17b).out.bel (bel_drewN _ 1)) (fun hHeld => ?_)
          refine wpAnyT_take (i := 0) (v := ?_) [1, 6, 7, 8] (oi := { dst := some 97, op := Go.Op.fieldAddr 25 (Go.Operand.tmp 14) 4, type := 0, pos := "low.go:502", after := #[], guard := none }) rfl (by kernel_rfl) (by kernel_rfl) (by kernel_rfl) (by kernel_rfl) (fun _ _ _ h => h) (Or.inl ⟨by rfl, ?_⟩) hHeld ?_
          rotate_left
          · intro wS hSw
            go_simp
            all_goals with_reducible rfl
          simp only [Act.put, List.setIfInBounds_toArray, List.set_cons_zero, List.set_cons_succ]
          refine wpAnyT_take (i := 1) (v := ?_) [6, 7, 8] (oi := { dst := some 98, op := Go.Op.load 23 (Go.Operand.tmp 97), type := 23, pos := "low.go:502", after := #[{ on := 0, ground := Go.Ground.data }], guard := none }) rfl (by kernel_rfl) (by kernel_rfl) (by kernel_rfl) (by kernel_rfl) (fun _ _ _ h => h) (Or.inl ⟨by rfl, ?_⟩) hHeld ?_
          rotate_left
          · intro wS hSw
            obtain ⟨u0, u1, u2, u3, u4, -⟩ := hSw.1.1.c
            obtain ⟨v0, v1, v2, v3, v4, -⟩ := hSw.2.1.c
            go_simp
            all_goals with_reducible rfl
          simp only [Act.put, List.setIfInBounds_toArray, List.set_cons_zero, List.set_cons_succ]
          refine wpAnyT_take (i := 2) (v := ?_) [3, 5, 6, 7, 8] (oi := { dst := some 99, op := Go.Op.fieldAddr 25 (Go.Operand.tmp 5) 4, type := 0, pos := "low.go:502", after := #[], guard := none }) rfl (by kernel_rfl) (by kernel_rfl) (by kernel_rfl) (by kernel_rfl) (fun _ _ _ h => h) (Or.inl ⟨by rfl, ?_⟩) hHeld ?_
          rotate_left
          · intro wS hSw
            go_simp
            all_goals with_reducible rfl
          simp only [Act.put, List.setIfInBounds_toArray, List.set_cons_zero, List.set_cons_succ]
          refine wpAnyT_take (i := 3) (v := ?_) [5, 6, 7, 8] (oi := { dst := some 100, op := Go.Op.load 23 (Go.Operand.tmp 99), type := 23, pos := "low.go:502", after := #[{ on := 2, ground := Go.Ground.data }], guard := none }) rfl (by kernel_rfl) (by kernel_rfl) (by kernel_rfl) (by kernel_rfl) (fun _ _ _ h => h) (Or.inl ⟨by rfl, ?_⟩) hHeld ?_
          rotate_left
          · intro wS hSw
            obtain ⟨u0, u1, u2, u3, u4, -⟩ := hSw.1.1.c
            obtain ⟨v0, v1, v2, v3, v4, -⟩ := hSw.2.1.c
            go_simp
            all_goals with_reducible rfl
          simp only [Act.put, List.setIfInBounds_toArray, List.set_cons_zero, List.set_cons_succ]
          refine wpAnyT_take (i := 4) (v := ?_) [5, 6, 7, 8] (oi := { dst := some 101, op := Go.Op.move (Go.Operand.tmp 13), type := 3, pos := "low.go:502", after := #[], guard := none }) rfl (by kernel_rfl) (by kernel_rfl) (by kernel_rfl) (by kernel_rfl) (fun _ _ _ h => h) (Or.inl ⟨by rfl, ?_⟩) hHeld ?_
          rotate_left
          · intro wS hSw
            go_simp
            all_goals with_reducible rfl
          simp only [Act.put, List.setIfInBounds_toArray, List.set_cons_zero, List.set_cons_succ]
          refine wpAnyT_take (i := 5) (v := ?_) [6, 7, 8] (oi := { dst := some 102, op := Go.Op.slice 23 (Go.Operand.tmp 100) (some (Go.Operand.tmp 101)) none none, type := 23, pos := "low.go:502", after := #[{ on := 3, ground := Go.Ground.data }, { on := 4, ground := Go.Ground.data }], guard := none }) rfl (by kernel_rfl) (by kernel_rfl) (by kernel_rfl) (by kernel_rfl) (fun _ _ _ h => h) (Or.inl ⟨by rfl, ?_⟩) hHeld ?_
          rotate_left
          · intro wS hSw
            go_simp
            all_goals with_reducible rfl
          simp only [Act.put, List.setIfInBounds_toArray, List.set_cons_zero, List.set_cons_succ]
          refine wpAnyT_ready (rs := [6]) (by kernel_rfl) (by simp) ?_
          refine AllReadyT.cons (i := 6) (o := { dst := some 103, op := Go.Op.call { callee := Go.Callee.builtin Go.Builtin.append, args := #[Go.Operand.tmp 98, Go.Operand.tmp 102], argTypes := #[23, 23] }, type := 23, pos := "low.go:502", after := #[{ on := 1, ground := Go.Ground.data }, { on := 5, ground := Go.Ground.data }], guard := none }) rfl (fun K hK => ?_) ?_
          · refine step_run (by rfl) (.tmp 98) (.tmp 102) 23 (by rfl) _ _ (by rfl) (by rfl) _ (fun ty => run_joinV O17.out.2 S3.out (by have := Hm16.out; omega) O17.out.1 ty) (fun v9 W9 hR => ?_)
            obtain ⟨ho9, hg9⟩ := hR
            obtain ⟨m18, hm9⟩ : ∃ m, m16 + 1 + (t.l.length - i) = m := ⟨_, rfl⟩
            rw [hm9] at ho9
            have Hm18 := hidI hm9
            clear hm9
            obtain ⟨la9, lc9, rfl, -, -, -, -⟩ := own_form ho9
            have O9 := hidI ho9
            have G9 := hidI hg9
            refine hK.out _ _ (hHeld.grown hg9 (fun k e => (O17.out.2.lt k e).1)) (fun hHeld2 => ?_)
            clear ho9 hg9
            clear hK K
            replace hHeld := hHeld2
            clear hHeld2
            try simp only [Act.put, List.setIfInBounds_toArray, List.set_cons_zero, List.set_cons_succ]
            refine wpAnyT_take (i := 7) (v := ?_) [8] (oi := { dst := some 104, op := Go.Op.fieldAddr 25 (Go.Operand.tmp 14) 4, type := 0, pos := "low.go:502", after := #[{ on := 0, ground := Go.Ground.phase }, { on := 1, ground := Go.Ground.phase }, { on := 2, ground := Go.Ground.phase }, { on := 3, ground := Go.Ground.phase }, { on := 4, ground := Go.Ground.phase }, { on := 5, ground := Go.Ground.phase }, { on := 6, ground := Go.Ground.phase }], guard := none }) rfl (by kernel_rfl) (by kernel_rfl) (by kernel_rfl) (by kernel_rfl) (fun _ _ _ h => h) (Or.inl ⟨by rfl, ?_⟩) hHeld ?_
            rotate_left
            · intro wS hSw
              go_simp
              all_goals with_reducible rfl
            simp only [Act.put, List.setIfInBounds_toArray, List.set_cons_zero, List.set_cons_succ]
            obtain ⟨o0, o1, o2, o3, o4, f0, f1, f2, f3, f4⟩ := hHeld.2.1.c
            clear hHeld
            refine wpAnyT_last (i := 8) (o := { dst := none, op := Go.Op.store 23 (Go.Operand.tmp 104) (Go.Operand.tmp 103), type := 0, pos := "low.go:502", after := #[{ on := 7, ground := Go.Ground.data }, { on := 6, ground := Go.Ground.data }, { on := 6, ground := Go.Ground.chain }, { on := 0, ground := Go.Ground.phase }, { on := 1, ground := Go.Ground.phase }, { on := 2, ground := Go.Ground.phase }, { on := 3, ground := Go.Ground.phase }, { on := 4, ground := Go.Ground.phase }, { on := 5, ground := Go.Ground.phase }, { on := 6, ground := Go.Ground.phase }], guard := none }) (by kernel_rfl) (by rfl) rfl (fun K hK => ?_)
            go_simp
            refine hK.out _ _ ?_
            clear hK K
            try simp only [Act.put, List.setIfInBounds_toArray, List.set_cons_zero, List.set_cons_succ]
            refine wpAnyT_done (by kernel_rfl) ?_ _
            obtain ⟨W18, hW18⟩ : ∃ W, W9.setCell ⟨w6q.heap.size, 4, none⟩ (.slice la9 m18 lc9) = W := ⟨_, rfl⟩
            rw [hW18]
            have A18 : Hid (AL w t x a1 (some ⟨b, off, none⟩) a7 a8 c1 c2 c7 c8 w6q.heap.size la9 m18 lc9 _ W18) := hidI (by rw [← hW18]; exact (A17.out.bel (bel_drewN _ 1)).push O9.out G9.out)
            clear hW18 O9 G9 A17 O17 O17b S3
            have hlen : m18 = (t.l.take i ++ x :: t.l.drop i).length := by have := Hm18.out; have := Hm16.out; simp; omega
            have R := hidI (A18.out.fin (ok := ok) RW.out hlen (by rw [← hlen]; have := Hm18.out; have := Hm16.out; omega))
            clear hlen
            obtain ⟨u0, u1, u2, u3, u4, -⟩ := A18.out.1.2.1.c
            obtain ⟨o0, o1, o2, o3, o4, f0, f1, f2, f3, f4⟩ := A18.out.1.1.2.2.1.c
            go_wp2_with fail
            obtain ⟨r1, r2, r3⟩ := R.out
            obtain ⟨z0, z1, z2, z3, z4, -⟩ := r3.c
            refine bodyPost_ret (v := .tuple #[.agg #[.int .i64 4, .int .i64 0, .string ⟨#[]⟩, .slice none 0 0, .slice la9 m18 lc9], .int .i64 0]) ?_ rfl ?_
            · simp only [set5] at z0 z1 z2 z3 z4
              simp [results, Tryd.results31, go_sem, z0, z1, z2, z3, z4]
            · exact ⟨_, rfl, r1, by first | (rw [LI.out]; exact r2) | (have h9 := LI.out; simp only [List.take_zero, List.drop_zero, List.nil_append] at h9 r2 ⊢; rw [h9]; exact r2) | (have h9 := LI.out; simp at h9 r2 ⊢; rw [h9]; exact r2)⟩
          exact AllReadyT.nil
        exact AllReadyT.nil
      exact AllReadyT.nil
set_option maxRecDepth 100000 in
set_option maxHeartbeats 40000000 in
theorem alter1_place (w : World) (ok oks : Nat → Prop) (t x : V) (v xv nv : Value) (s : List UInt8) (h : In w ok t v) (hx : In w ok x xv) (hn : Nice t) (hnv : StrsAre w oks [s] nv) (h4 : t.kind = 4) (hp : placeP t.l.length s = none) :
    Calls Tryd.prog 31 #[.int .i64 1, v, nv, xv] w fun e w' => ∃ r, e = .returned (.tuple #[r, .int .i64 3]) ∧ Below w.heap.size w w' ∧ In w' (okN ok w.heap.size) (t) r := by
  obtain ⟨nb, no, nc, rfl, n1, n2, n3, n4⟩ := strs_head hnv
  simp only [List.length_nil, Nat.zero_add] at n1 ⊢
  have H := hidI h.low
  have HX := hidI hx.low
  have HN := hidI hn
  obtain ⟨l1, l2, l3⟩ := h.lens
  obtain ⟨a1, a2, c1, c2, rfl⟩ := h.form
  obtain ⟨a7, a8, c7, c8, rfl⟩ := hx.form
  have hsz := nice_len hn
  have g0 : ∀ o1 o2 o3, (((w.alloc o1).alloc o2).alloc o3).cell? ⟨nb, no, none⟩ = some (.string ⟨s.toArray⟩) := fun o1 o2 o3 => cell_bel (bel_trans (bel_trans (bel_alloc _ _) (bel_alloc _ _)) (bel_alloc _ o3)) n4
  have con1 : Hid (∀ W, W.heap = (((w.alloc (.cells #[.int .i64 t.kind, .int .i64 t.n, .string ⟨t.s.toArray⟩, .slice a1 t.keys.length c1, .slice a2 t.l.length c2] 25)).alloc (.cells #[.int .i64 x.kind, .int .i64 x.n, .string ⟨x.s.toArray⟩, .slice a7 x.keys.length c7, .slice a8 x.l.length c8] 25)).alloc (.cells #[.int .i64 0, .int .i64 0, .string ⟨#[]⟩, .slice none 0 0, .slice none 0 0] 25)).heap → W.os = w.os → W.tape = w.tape → W.output = w.output → Calls Tryd.prog 28 #[.agg #[.int .i64 t.kind, .int .i64 t.n, .string ⟨t.s.toArray⟩, .slice a1 t.keys.length c1, .slice a2 t.l.length c2], .string ⟨s.toArray⟩] W fun e w' => e = .returned (.int .i64 (optI (atV t s))) ∧ KA w t x a1 a2 a7 a8 c1 c2 c7 c8 w') := by
    intro W e1 e2 e3 e4
    have hbW := bel_of3 e1 e2 e3 e4
    refine (rkid_is W (fun k => ok k ∧ k < w.heap.size) t _ s (H.out.bel hbW) (fun h5 => by have := nice_paired HN.out h5; simp only [pairedV, Bool.and_eq_true, decide_eq_true_eq] at this; omega)).mono ?_
    rintro e w1 ⟨rfl, hb1⟩
    exact ⟨rfl, box_bel hb1 (by unfold BoxIs; rw [e1]; exact h3a w _ _ _), box_bel hb1 (by unfold BoxIs; rw [e1]; exact h3b w _ _ _), box_bel hb1 (by unfold BoxIs; rw [e1]; exact h3c w _ _ _), bel_trans hbW hb1⟩
  have N4 := hidI n4
  have q5 : (t.kind == 5) = false := by simp [h4]
  have q4 : (t.kind == 4) = true := by simp [h4]
  have HP := hidI hp
  clear hp h4
  clear h hx hn n4 hnv
  have e11 : ¬ (1 : Int) < 1 := by omega
  go_enter Tryd.func31, Tryd.ntmps31
  go_upto_region 1 with fail
  go_cut [10] (fun p wc => p = .int .i64 (optI (atV t s)) ∧ KA w t x a1 a2 a7 a8 c1 c2 c7 c8 wc)
  case first =>
    go_region_with ((go_at_call 28; refine (con1.out _ (by rfl) (by rfl) (by rfl) (by rfl)).mono ?_; rintro e w1 ⟨rfl, hfin⟩; have FIN := hidI hfin; clear hfin))
    all_goals
      go_wp2_with fail
      go_meet
      case rel => exact ⟨rfl, FIN.out⟩
  case rest =>
    obtain ⟨wa, hwa⟩ : ∃ wa, wa = wc := ⟨_, rfl⟩
    subst hwa
    obtain ⟨rfl, k0⟩ := hcut
    have K := hidI k0
    clear con1 g0 k0
    have hk3 := K.out.big
    obtain ⟨p0, p1, p2, p3, p4, -⟩ := K.out.1.c
    go_upto_region 12 with fail
    clear p0 p1 p2 p3 p4
    refine wp_region_T (fun wS => KA w t x a1 a2 a7 a8 c1 c2 c7 c8 wS) [] (by kernel_rfl) (K.out.bel (bel_drewN _ 1)) (fun hHeld => ?_)
    refine wpAnyT_take (i := 0) (v := ?_) [] (oi := { dst := some 72, op := Go.Op.move (Go.Operand.tmp 2), type := 22, pos := "low.go:495", after := #[], guard := none }) rfl (by kernel_rfl) (by kernel_rfl) (by kernel_rfl) (by kernel_rfl) (fun _ _ _ h => h) (Or.inl ⟨by rfl, ?_⟩) hHeld ?_
    rotate_left
    · intro wS hSw
      go_simp
      all_goals with_reducible rfl
    simp only [Act.put, List.setIfInBounds_toArray, List.set_cons_zero, List.set_cons_succ]
    refine wpAnyT_take (i := 1) (v := ?_) [] (oi := { dst := some 73, op := Go.Op.indexAddr 22 (Go.Operand.tmp 72) (Go.Operand.const (Go.Value.int Go.IntKind.i64 0)), type := 0, pos := "low.go:495", after := #[{ on := 0, ground := Go.Ground.data }], guard := none }) rfl (by kernel_rfl) (by kernel_rfl) (by kernel_rfl) (by kernel_rfl) (fun _ _ _ h => h) (Or.inl ⟨by rfl, ?_⟩) hHeld ?_
    rotate_left
    · intro wS hSw
      go_simp
      all_goals with_reducible rfl
    simp only [Act.put, List.setIfInBounds_toArray, List.set_cons_zero, List.set_cons_succ]
    refine wpAnyT_take (i := 2) (v := ?_) [] (oi := { dst := some 74, op := Go.Op.load 9 (Go.Operand.tmp 73), type := 9, pos := "low.go:495", after := #[{ on := 1, ground := Go.Ground.data }], guard := none }) rfl (by kernel_rfl) (by kernel_rfl) (by kernel_rfl) (by kernel_rfl) (fun _ _ _ h => h) (Or.inl ⟨by rfl, ?_⟩) hHeld ?_
    rotate_left
    · intro wS hSw
      obtain ⟨u0, u1, u2, u3, u4, -⟩ := hSw.1.c
      have nn := cell_bel hSw.2.2.2 N4.out
      go_simp
      all_goals with_reducible rfl
    simp only [Act.put, List.setIfInBounds_toArray, List.set_cons_zero, List.set_cons_succ]
    refine wpAnyT_take (i := 3) (v := ?_) [] (oi := { dst := some 75, op := Go.Op.fieldAddr 25 (Go.Operand.tmp 5) 4, type := 0, pos := "low.go:495", after := #[], guard := none }) rfl (by kernel_rfl) (by kernel_rfl) (by kernel_rfl) (by kernel_rfl) (fun _ _ _ h => h) (Or.inl ⟨by rfl, ?_⟩) hHeld ?_
    rotate_left
    · intro wS hSw
      go_simp
      all_goals with_reducible rfl
    simp only [Act.put, List.setIfInBounds_toArray, List.set_cons_zero, List.set_cons_succ]
    refine wpAnyT_take (i := 4) (v := ?_) [] (oi := { dst := some 76, op := Go.Op.load 23 (Go.Operand.tmp 75), type := 23, pos := "low.go:495", after := #[{ on := 3, ground := Go.Ground.data }], guard := none }) rfl (by kernel_rfl) (by kernel_rfl) (by kernel_rfl) (by kernel_rfl) (fun _ _ _ h => h) (Or.inl ⟨by rfl, ?_⟩) hHeld ?_
    rotate_left
    · intro wS hSw
      obtain ⟨u0, u1, u2, u3, u4, -⟩ := hSw.1.c
      have nn := cell_bel hSw.2.2.2 N4.out
      go_simp
      all_goals with_reducible rfl
    simp only [Act.put, List.setIfInBounds_toArray, List.set_cons_zero, List.set_cons_succ]
    refine wpAnyT_take (i := 5) (v := ?_) [] (oi := { dst := some 77, op := Go.Op.call { callee := Go.Callee.builtin Go.Builtin.len, args := #[Go.Operand.tmp 76], argTypes := #[23] }, type := 3, pos := "low.go:495", after := #[{ on := 4, ground := Go.Ground.data }], guard := none }) rfl (by kernel_rfl) (by kernel_rfl) (by kernel_rfl) (by kernel_rfl) (fun _ _ _ h => h) (Or.inl ⟨by rfl, ?_⟩) hHeld ?_
    rotate_left
    · intro wS hSw
      go_simp
      all_goals with_reducible rfl
    simp only [Act.put, List.setIfInBounds_toArray, List.set_cons_zero, List.set_cons_succ]
    refine wpAnyT_ready (rs := [6]) (by kernel_rfl) (by simp) ?_
    refine AllReadyT.cons (i := 6) (o := { dst := some 78, op := Go.Op.call { callee := Go.Callee.value (Go.Operand.func 49), args := #[Go.Operand.tmp 74, Go.Operand.tmp 77], argTypes := #[9, 3] }, type := 3, pos := "low.go:495", after := #[{ on := 2, ground := Go.Ground.data }, { on := 5, ground := Go.Ground.data }], guard := none }) rfl (fun K hK => ?_) ?_
    · go_simp
      refine (rplace_is _ s t.l.length l2).mono ?_
      rintro e w6q ⟨rfl, hb⟩
      rw [HP.out]
      have eo : optI none = -1 := rfl
      rw [eo]
      clear eo
      refine hK.out _ _ (hHeld.bel hb) (fun hHeld2 => ?_)
      clear hb
      clear hK K
      replace hHeld := hHeld2
      clear hHeld2
      try simp only [Act.put, List.setIfInBounds_toArray, List.set_cons_zero, List.set_cons_succ]
      refine wpAnyT_take (i := 7) (v := ?_) [] (oi := { dst := some 13, op := Go.Op.assign (Go.Operand.tmp 78), type := 3, pos := "low.go:495", after := #[{ on := 6, ground := Go.Ground.data }, { on := 6, ground := Go.Ground.chain }, { on := 0, ground := Go.Ground.phase }, { on := 1, ground := Go.Ground.phase }, { on := 2, ground := Go.Ground.phase }, { on := 3, ground := Go.Ground.phase }, { on := 4, ground := Go.Ground.phase }, { on := 5, ground := Go.Ground.phase }, { on := 6, ground := Go.Ground.phase }], guard := none }) rfl (by kernel_rfl) (by kernel_rfl) (by kernel_rfl) (by kernel_rfl) (fun _ _ _ h => h) (Or.inl ⟨by rfl, ?_⟩) hHeld ?_
      rotate_left
      · intro wS hSw
        go_simp
        all_goals with_reducible rfl
      simp only [Act.put, List.setIfInBounds_toArray, List.set_cons_zero, List.set_cons_succ]
      refine wpAnyT_done (by kernel_rfl) ?_ _
      have K9 := hidI hHeld
      clear hHeld
      obtain ⟨p0, p1, p2, p3, p4, -⟩ := K9.out.1.c
      obtain ⟨x0, x1, x2, x3, x4, y0, y1, y2, y3, y4⟩ := K9.out.2.2.1.c
      have Z : Hid (_ ∧ _) := hidI (set_out (C := w6q.heap.size) (g := w.heap.size + 2) ((H.out.bel K9.out.2.2.2).weak (lowN_low (C := w6q.heap.size))) K9.out.2.2.2 (by omega) K9.out.2.2.1.lt)
      have ZB : Hid _ := hidI (K9.out.2.2.1.set (.int .i64 t.kind) (.int .i64 t.n) (.string ⟨t.s.toArray⟩) (.slice a1 t.keys.length c1) (.slice a2 t.l.length c2))
      go_wp2_with fail
      obtain ⟨z0, z1, z2, z3, z4, -⟩ := ZB.out.c
      refine bodyPost_ret (v := .tuple #[.agg #[.int .i64 t.kind, .int .i64 t.n, .string ⟨t.s.toArray⟩, .slice a1 t.keys.length c1, .slice a2 t.l.length c2], .int .i64 3]) ?_ rfl ?_
      · simp only [set5] at z0 z1 z2 z3 z4
        simp [results, Tryd.results31, go_sem, z0, z1, z2, z3, z4]
      · exact ⟨_, rfl, Z.out.1, Z.out.2⟩
    exact AllReadyT.nil
end Go.Proofs.YtaifciobaapehaaDoor
