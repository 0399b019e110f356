/- What MergeDoes of package stairwelllaw answers. -/
import Derived.Test.YtfbddgpekbhpfacGreatDoorFu
import Derived.Test.YtfbddgpekbhpfacGreatDoorFz
import Derived.Test.YtfbddgpekbhpfacGreatDoorMj
import Derived.Test.YtfbddgpekbhpfacGreatDoorRu
set_option linter.unusedSimpArgs false
set_option linter.unusedVariables false
namespace Go.Proofs.YtfbddgpekbhpfacGreatDoor
open Go.RowKit

/- Both values. -/
def MD (w : World) (t x : V) (a1 b1 a2 b2 : Option Addr) (c1 d1 c2 d2 : Nat) (W : World) : Prop := BoxIs W w.heap.size (.int .i64 t.kind) (.int .i64 t.n) (.string ⟨t.s.toArray⟩) (.slice a1 t.keys.length c1) (.slice b1 t.l.length d1) ∧ BoxIs W (w.heap.size + 1) (.int .i64 x.kind) (.int .i64 x.n) (.string ⟨x.s.toArray⟩) (.slice a2 x.keys.length c2) (.slice b2 x.l.length d2) ∧ In W (fun k => k < w.heap.size) t (.agg #[.int .i64 t.kind, .int .i64 t.n, .string ⟨t.s.toArray⟩, .slice a1 t.keys.length c1, .slice b1 t.l.length d1]) ∧ In W (fun k => k < w.heap.size) x (.agg #[.int .i64 x.kind, .int .i64 x.n, .string ⟨x.s.toArray⟩, .slice a2 x.keys.length c2, .slice b2 x.l.length d2]) ∧ Below w.heap.size w W ∧ w.heap.size + 2 ≤ W.heap.size
theorem MD.bel {w W W' : World} {t x : V} {a1 b1 a2 b2 : Option Addr} {c1 d1 c2 d2 : Nat} (h : MD w t x a1 b1 a2 b2 c1 d1 c2 d2 W) (hb : Below W.heap.size W W') : MD w t x a1 b1 a2 b2 c1 d1 c2 d2 W' :=
  ⟨box_bel hb h.1, box_bel hb h.2.1, h.2.2.1.bel hb, h.2.2.2.1.bel hb, bel_trans h.2.2.2.2.1 hb, Nat.le_trans h.2.2.2.2.2 hb.size⟩
/- A value in a box of its own. -/
def OB (w : World) (m : V) (a3 b3 : Option Addr) (c3 d3 : Nat) (g : Nat) (W : World) : Prop := BoxIs W g (.int .i64 m.kind) (.int .i64 m.n) (.string ⟨m.s.toArray⟩) (.slice a3 m.keys.length c3) (.slice b3 m.l.length d3) ∧ In W (fun k => k ≠ g) m (.agg #[.int .i64 m.kind, .int .i64 m.n, .string ⟨m.s.toArray⟩, .slice a3 m.keys.length c3, .slice b3 m.l.length d3]) ∧ w.heap.size + 2 ≤ g
theorem OB.bel {w W W' : World} {m : V} {a3 b3 : Option Addr} {c3 d3 : Nat} {g : Nat} (h : OB w m a3 b3 c3 d3 g W) (hb : Below W.heap.size W W') : OB w m a3 b3 c3 d3 g W' := ⟨box_bel hb h.1, h.2.1.bel hb, h.2.2⟩
theorem in_ne {W : World} {m : V} {v : Value} {B g : Nat} (h : In W (fun k => B ≤ k) m v) (hg : g < B) : In W (fun k => k ≠ g) m v := h.weak fun k hk => by omega
theorem MD.set {w W : World} {t x : V} {a1 b1 a2 b2 : Option Addr} {c1 d1 c2 d2 : Nat} {g : Nat} (h : MD w t x a1 b1 a2 b2 c1 d1 c2 d2 W) (hg : w.heap.size + 2 ≤ g) (v0 v1 v2 v3 v4 : Value) : MD w t x a1 b1 a2 b2 c1 d1 c2 d2 (set5 W g v0 v1 v2 v3 v4) := by
  have gs := set5_gb W g v0 v1 v2 v3 v4
  exact ⟨h.1.grown gs (by simp; omega), h.2.1.grown gs (by simp; omega), h.2.2.1.grown gs (fun k hk => by omega), h.2.2.2.1.grown gs (fun k hk => by omega), bel_set5 h.2.2.2.2.1 (by omega) _ _ _ _ _, Nat.le_trans h.2.2.2.2.2 gs.size⟩
theorem OB.made {w W : World} {m : V} {a3 b3 : Option Addr} {c3 d3 : Nat} {g : Nat} {v0 v1 v2 v3 v4 : Value} (hb : BoxIs W g v0 v1 v2 v3 v4) (hm : In W (fun k => k ≠ g) m (.agg #[.int .i64 m.kind, .int .i64 m.n, .string ⟨m.s.toArray⟩, .slice a3 m.keys.length c3, .slice b3 m.l.length d3])) (hg : w.heap.size + 2 ≤ g) : OB w m a3 b3 c3 d3 g (set5 W g (.int .i64 m.kind) (.int .i64 m.n) (.string ⟨m.s.toArray⟩) (.slice a3 m.keys.length c3) (.slice b3 m.l.length d3)) :=
  ⟨hb.set _ _ _ _ _, hm.grown (set5_gb W g _ _ _ _ _) (fun k hk => hk), hg⟩

attribute [local go_sem ↓] Go.wp_at_zero Go.wp_at_succ
open Classical in
set_option maxRecDepth 100000 in
set_option maxHeartbeats 4000000 in
theorem mergeDoes_walk (w : World) (okt : Nat → Prop) (dt : Nat) (t : V) (vt : Value) (ht : VIs w okt dt t vt) (hNt : siz t ≤ 2000000) (okx : Nat → Prop) (dx : Nat) (x : V) (vx : Value) (hx : VIs w okx dx x vx) (hNx : siz x ≤ 2000000) (hG : Glob w) :
    Calls Tryz.prog 3 #[vt, vx] w fun e w' => e = .returned (.bool true) ∧ Below w.heap.size w w' := by
  have HG := hidI hG
  have CT : Hid (cnt t ≤ 2000000) := hidI (Nat.le_trans (cnt_siz t) hNt)
  have CX : Hid (cnt x ≤ 2000000) := hidI (Nat.le_trans (cnt_siz x) hNx)
  have NT := hidI hNt
  have NX := hidI hNx
  have qt := ht.is.low
  have Ht : Hid (In w (fun k => k < w.heap.size) t vt) := hidI (qt.weak fun k hk => hk.2)
  obtain ⟨la1, lb1, lc1⟩ := qt.lens
  obtain ⟨a1, b1, c1, d1, rfl⟩ := qt.form
  clear qt ht
  have qx := hx.is.low
  have Hx : Hid (In w (fun k => k < w.heap.size) x vx) := hidI (qx.weak fun k hk => hk.2)
  obtain ⟨la2, lb2, lc2⟩ := qx.lens
  obtain ⟨a2, b2, c2, d2, rfl⟩ := qx.form
  clear qx hx
  clear hG hNt hNx
  obtain ⟨m, hm⟩ : ∃ m, (mergeR t x).1 = m := ⟨_, rfl⟩
  obtain ⟨i1, hi1⟩ : ∃ i, (mergeR t x).2 = i := ⟨_, rfl⟩
  obtain ⟨m2, hm2⟩ : ∃ m, (diffR t x).1 = m := ⟨_, rfl⟩
  obtain ⟨i2, hi2⟩ : ∃ i, (diffR t x).2 = i := ⟨_, rfl⟩
  have HM := hidI hm
  have HI := hidI hi1
  have HM2 := hidI hm2
  have HI2 := hidI hi2
  clear hm hi1 hm2 hi2
  have B0 : Hid (Below w.heap.size w ((w.alloc (.cells #[.int .i64 t.kind, .int .i64 t.n, .string ⟨t.s.toArray⟩, .slice a1 t.keys.length c1, .slice b1 t.l.length d1] 25)).alloc (.cells #[.int .i64 x.kind, .int .i64 x.n, .string ⟨x.s.toArray⟩, .slice a2 x.keys.length c2, .slice b2 x.l.length d2] 25))) := hidI (bel_trans (bel_alloc _ _) (bel_alloc _ _))
  have K0 : Hid (MD w t x a1 b1 a2 b2 c1 d1 c2 d2 ((w.alloc (.cells #[.int .i64 t.kind, .int .i64 t.n, .string ⟨t.s.toArray⟩, .slice a1 t.keys.length c1, .slice b1 t.l.length d1] 25)).alloc (.cells #[.int .i64 x.kind, .int .i64 x.n, .string ⟨x.s.toArray⟩, .slice a2 x.keys.length c2, .slice b2 x.l.length d2] 25))) := hidI ⟨h2a w _ _, h2b w _ _, Ht.out.bel B0.out, Hx.out.bel B0.out, B0.out, by simp⟩
  obtain ⟨s0, s1, s2, s3, s4, -⟩ := K0.out.1.c
  obtain ⟨t0, t1, t2, t3, t4, -⟩ := K0.out.2.1.c
  go_enter Tryz.func3, Tryz.ntmps3
  go_upto_region 1 with fail
  go_cut [5, 6] (fun p e wc => ∃ (g : Nat) (a3 b3 : Option Addr) (c3 d3 : Nat), p = .pointer (some ⟨g, 0, none⟩) ∧ e = .int .i64 i1 ∧ MD w t x a1 b1 a2 b2 c1 d1 c2 d2 wc ∧ OB w m a3 b3 c3 d3 g wc)
  case first =>
    clear s0 s1 s2 s3 s4 t0 t1 t2 t3 t4
    refine wp_region_T (fun wS => MD w t x a1 b1 a2 b2 c1 d1 c2 d2 wS) [9] (by kernel_rfl) (K0.out.bel (bel_drewN _ 1)) (fun hHeld => ?_)
    refine wpAnyT_take (i := 0) (v := ?_) [1, 3, 4, 5, 6, 7, 9, 10] (oi := { dst := some 10, op := Go.Op.load 25 (Go.Operand.tmp 2), type := 25, pos := "law.go:149", after := #[], guard := none }) rfl (by kernel_rfl) (by kernel_rfl) (by kernel_rfl) (by kernel_rfl) (fun _ _ _ h => h) (Or.inl ⟨by rfl, ?_⟩) hHeld ?_
    rotate_left
    · intro wS hSw
      obtain ⟨v0, v1, v2, v3, v4, -⟩ := hSw.1.c
      obtain ⟨y0, y1, y2, y3, y4, -⟩ := hSw.2.1.c
      go_simp
      all_goals with_reducible rfl
    simp only [Act.put, List.setIfInBounds_toArray, List.set_cons_zero, List.set_cons_succ]
    refine wpAnyT_take (i := 2) (v := ?_) [3, 4, 5, 6, 7, 9, 10] (oi := { dst := some 12, op := Go.Op.load 25 (Go.Operand.tmp 3), type := 25, pos := "law.go:149", after := #[], guard := none }) rfl (by kernel_rfl) (by kernel_rfl) (by kernel_rfl) (by kernel_rfl) (fun _ _ _ h => h) (Or.inl ⟨by rfl, ?_⟩) hHeld ?_
    rotate_left
    · intro wS hSw
      obtain ⟨v0, v1, v2, v3, v4, -⟩ := hSw.1.c
      obtain ⟨y0, y1, y2, y3, y4, -⟩ := hSw.2.1.c
      go_simp
      all_goals with_reducible rfl
    simp only [Act.put, List.setIfInBounds_toArray, List.set_cons_zero, List.set_cons_succ]
    refine wpAnyT_ready (rs := [1, 8]) (by kernel_rfl) (by simp) ?_
    refine AllReadyT.cons (i := 1) (o := { dst := some 11, op := Go.Op.call { callee := Go.Callee.value (Go.Operand.func 5), args := #[Go.Operand.tmp 10], argTypes := #[25] }, type := 25, pos := "law.go:149", after := #[{ on := 0, ground := Go.Ground.data }], guard := none }) rfl (fun K hK => ?_) ?_
    · go_simp
      refine (rcopy_is _ (fun k => k < w.heap.size) t _ (by exact hHeld.2.2.1) (by have := NT.out; omega)).mono ?_
      rintro e w1q ⟨r1, rfl, hb, hr⟩
      have R1 := hidI (hr.weak (ok' := (fun _ => True)) (fun _ _ => trivial))
      refine hK.out _ _ (hHeld.bel hb) (fun hHeld2 => ?_)
      clear hr hb
      clear hK K
      replace hHeld := hHeld2
      clear hHeld2
      try simp only [Act.put, List.setIfInBounds_toArray, List.set_cons_zero, List.set_cons_succ]
      refine wpAnyT_ready (rs := [3, 8]) (by kernel_rfl) (by simp) ?_
      refine AllReadyT.cons (i := 3) (o := { dst := some 13, op := Go.Op.call { callee := Go.Callee.value (Go.Operand.func 5), args := #[Go.Operand.tmp 12], argTypes := #[25] }, type := 25, pos := "law.go:149", after := #[{ on := 2, ground := Go.Ground.data }, { on := 1, ground := Go.Ground.chain }], guard := none }) rfl (fun K hK => ?_) ?_
      · go_simp
        refine (rcopy_is _ (fun k => k < w.heap.size) x _ (by exact hHeld.2.2.2.1) (by have := NX.out; omega)).mono ?_
        rintro e w3q ⟨r3, rfl, hb, hr⟩
        have R3 := hidI (hr.weak (ok' := (fun _ => True)) (fun _ _ => trivial))
        replace R1 := hidI (R1.out.bel hb)
        refine hK.out _ _ (hHeld.bel hb) (fun hHeld2 => ?_)
        clear hr hb
        clear hK K
        replace hHeld := hHeld2
        clear hHeld2
        try simp only [Act.put, List.setIfInBounds_toArray, List.set_cons_zero, List.set_cons_succ]
        refine wpAnyT_ready (rs := [4, 8]) (by kernel_rfl) (by simp) ?_
        refine AllReadyT.cons (i := 4) (o := { dst := some 14, op := Go.Op.call { callee := Go.Callee.value (Go.Operand.func 4), args := #[Go.Operand.tmp 11, Go.Operand.tmp 13], argTypes := #[25, 25] }, type := 27, pos := "law.go:149", after := #[{ on := 1, ground := Go.Ground.data }, { on := 3, ground := Go.Ground.data }, { on := 3, ground := Go.Ground.chain }], guard := none }) rfl (fun K hK => ?_) ?_
        · go_simp
          refine (merge_is _ (fun _ => True) t x _ _ R1.out R3.out).mono ?_
          rintro e w4q ⟨r4, rfl, hb, hr⟩
          rw [HM.out] at hr
          rw [HI.out]
          obtain ⟨a3, b3, c3, d3, rfl⟩ := hr.form
          have R4 := hidI (hr.weak (ok' := (fun _ => True)) (fun _ _ => trivial))
          replace R1 := hidI (R1.out.bel hb)
          replace R3 := hidI (R3.out.bel hb)
          refine hK.out _ _ (hHeld.bel hb) (fun hHeld2 => ?_)
          clear hr hb
          clear hK K
          replace hHeld := hHeld2
          clear hHeld2
          try simp only [Act.put, List.setIfInBounds_toArray, List.set_cons_zero, List.set_cons_succ]
          refine wpAnyT_take (i := 5) (v := ?_) [6, 7, 9, 10] (oi := { dst := some 9, op := Go.Op.move (Go.Operand.tmp 14), type := 27, pos := "law.go:149", after := #[{ on := 4, ground := Go.Ground.data }], guard := none }) rfl (by kernel_rfl) (by kernel_rfl) (by kernel_rfl) (by kernel_rfl) (fun _ _ _ h => h) (Or.inl ⟨by rfl, ?_⟩) hHeld ?_
          rotate_left
          · intro wS hSw
            go_simp
            all_goals with_reducible rfl
          simp only [Act.put, List.setIfInBounds_toArray, List.set_cons_zero, List.set_cons_succ]
          refine wpAnyT_take (i := 6) (v := ?_) [9, 10] (oi := { dst := some 15, op := Go.Op.extract (Go.Operand.tmp 9) 0, type := 25, pos := "law.go:149", after := #[{ on := 5, ground := Go.Ground.data }], guard := none }) rfl (by kernel_rfl) (by kernel_rfl) (by kernel_rfl) (by kernel_rfl) (fun _ _ _ h => h) (Or.inl ⟨by rfl, ?_⟩) hHeld ?_
          rotate_left
          · intro wS hSw
            go_simp
            all_goals with_reducible rfl
          simp only [Act.put, List.setIfInBounds_toArray, List.set_cons_zero, List.set_cons_succ]
          refine wpAnyT_takeY (i := 7) (v := ?_) (oi := { dst := some 16, op := Go.Op.extract (Go.Operand.tmp 9) 1, type := 26, pos := "law.go:149", after := #[{ on := 5, ground := Go.Ground.data }, { on := 9, ground := Go.Ground.gcOnly Go.Departure.lateStores }], guard := none }) rfl (by kernel_rfl) (by kernel_rfl) (by kernel_rfl) (by rfl) (fun _ _ _ h => h) (Or.inl ⟨by rfl, ?_⟩) hHeld ?_
          rotate_left
          · intro wS
            go_simp
            all_goals with_reducible rfl
          simp only [Act.put, List.setIfInBounds_toArray, List.set_cons_zero, List.set_cons_succ]
          refine wpAnyT_ready (rs := [8]) (by kernel_rfl) (by simp) ?_
          refine AllReadyT.cons (i := 8) (o := { dst := some 5, op := Go.Op.alloc 25, type := 0, pos := "law.go:149", after := #[], guard := none }) rfl (fun K hK => ?_) ?_
          · go_simp
            have HB4 := hidI hHeld
            have R40 := hidI R4.out.low
            have BX : Hid (BoxIs (w4q.alloc (.cells #[.int .i64 0, .int .i64 0, .string ⟨#[]⟩, .slice none 0 0, .slice none 0 0] 25)) w4q.heap.size (.int .i64 0) (.int .i64 0) (.string ⟨#[]⟩) (.slice none 0 0) (.slice none 0 0)) := hidI (heap_alloc_new _ _)
            have GG : Hid (w.heap.size + 2 ≤ w4q.heap.size) := hidI hHeld.2.2.2.2.2
            replace R1 := hidI (((R1.out.low).bel (bel_alloc _ (.cells #[.int .i64 0, .int .i64 0, .string ⟨#[]⟩, .slice none 0 0, .slice none 0 0] 25))).weak (ok' := fun k => k ≠ w4q.heap.size) fun k hk => by have := hk.2; omega)
            replace R3 := hidI (((R3.out.low).bel (bel_alloc _ (.cells #[.int .i64 0, .int .i64 0, .string ⟨#[]⟩, .slice none 0 0, .slice none 0 0] 25))).weak (ok' := fun k => k ≠ w4q.heap.size) fun k hk => by have := hk.2; omega)
            replace R4 := hidI (((R4.out.low).bel (bel_alloc _ (.cells #[.int .i64 0, .int .i64 0, .string ⟨#[]⟩, .slice none 0 0, .slice none 0 0] 25))).weak (ok' := fun k => k ≠ w4q.heap.size) fun k hk => by have := hk.2; omega)
            refine hK.out _ _ (hHeld.bel (bel_alloc _ (.cells #[.int .i64 0, .int .i64 0, .string ⟨#[]⟩, .slice none 0 0, .slice none 0 0] 25))) (fun hHeld2 => ?_)
            clear hK K
            replace hHeld := hHeld2
            clear hHeld2
            try simp only [Act.put, List.setIfInBounds_toArray, List.set_cons_zero, List.set_cons_succ]
            obtain ⟨o0, o1, o2, o3, o4, f0, f1, f2, f3, f4⟩ := BX.out.c
            have HE := hidI hHeld
            clear hHeld
            refine wpAnyT_last (i := 9) (o := { dst := none, op := Go.Op.store 25 (Go.Operand.tmp 5) (Go.Operand.tmp 15), type := 0, pos := "law.go:149", after := #[{ on := 8, ground := Go.Ground.data }, { on := 6, ground := Go.Ground.data }, { on := 4, ground := Go.Ground.chain }, { on := 0, ground := Go.Ground.phase }, { on := 1, ground := Go.Ground.phase }, { on := 2, ground := Go.Ground.phase }, { on := 3, ground := Go.Ground.phase }, { on := 4, ground := Go.Ground.phase }, { on := 5, ground := Go.Ground.phase }, { on := 6, ground := Go.Ground.phase }, { on := 7, ground := Go.Ground.textOnly Go.Departure.lateStores }, { on := 8, ground := Go.Ground.phase }], guard := none }) (by kernel_rfl) (by rfl) rfl (fun K hK => ?_)
            go_simp
            refine hK.out _ _ ?_
            clear hK K
            try simp only [Act.put, List.setIfInBounds_toArray, List.set_cons_zero, List.set_cons_succ]
            refine wpAnyT_last (i := 10) (o := { dst := some 6, op := Go.Op.assign (Go.Operand.tmp 16), type := 26, pos := "law.go:149", after := #[{ on := 7, ground := Go.Ground.data }, { on := 9, ground := Go.Ground.chain }, { on := 0, ground := Go.Ground.phase }, { on := 1, ground := Go.Ground.phase }, { on := 2, ground := Go.Ground.phase }, { on := 3, ground := Go.Ground.phase }, { on := 4, ground := Go.Ground.phase }, { on := 5, ground := Go.Ground.phase }, { on := 6, ground := Go.Ground.phase }, { on := 7, ground := Go.Ground.phase }, { on := 8, ground := Go.Ground.phase }, { on := 9, ground := Go.Ground.phase }], guard := none }) (by kernel_rfl) (by rfl) rfl (fun K hK => ?_)
            go_simp
            refine hK.out _ _ ?_
            clear hK K
            try simp only [Act.put, List.setIfInBounds_toArray, List.set_cons_zero, List.set_cons_succ]
            refine wpAnyT_done (by kernel_rfl) ?_ _
            go_wp2_with fail
            go_meet
            case rel => exact ⟨_, _, _, _, _, rfl, rfl, HB4.out.bel (bel_alloc _ _), heap_alloc_new _ _, (R40.out.bel (bel_alloc _ _)).weak (fun k hk => by have := hk.2; omega), HB4.out.2.2.2.2.2⟩
          exact AllReadyT.nil
        refine AllReadyT.cons (i := 8) (o := { dst := some 5, op := Go.Op.alloc 25, type := 0, pos := "law.go:149", after := #[], guard := none }) rfl (fun K hK => ?_) ?_
        · go_simp
          have BX : Hid (BoxIs (w3q.alloc (.cells #[.int .i64 0, .int .i64 0, .string ⟨#[]⟩, .slice none 0 0, .slice none 0 0] 25)) w3q.heap.size (.int .i64 0) (.int .i64 0) (.string ⟨#[]⟩) (.slice none 0 0) (.slice none 0 0)) := hidI (heap_alloc_new _ _)
          have GG : Hid (w.heap.size + 2 ≤ w3q.heap.size) := hidI hHeld.2.2.2.2.2
          replace R1 := hidI (((R1.out.low).bel (bel_alloc _ (.cells #[.int .i64 0, .int .i64 0, .string ⟨#[]⟩, .slice none 0 0, .slice none 0 0] 25))).weak (ok' := fun k => k ≠ w3q.heap.size) fun k hk => by have := hk.2; omega)
          replace R3 := hidI (((R3.out.low).bel (bel_alloc _ (.cells #[.int .i64 0, .int .i64 0, .string ⟨#[]⟩, .slice none 0 0, .slice none 0 0] 25))).weak (ok' := fun k => k ≠ w3q.heap.size) fun k hk => by have := hk.2; omega)
          refine hK.out _ _ (hHeld.bel (bel_alloc _ (.cells #[.int .i64 0, .int .i64 0, .string ⟨#[]⟩, .slice none 0 0, .slice none 0 0] 25))) (fun hHeld2 => ?_)
          clear hK K
          replace hHeld := hHeld2
          clear hHeld2
          try simp only [Act.put, List.setIfInBounds_toArray, List.set_cons_zero, List.set_cons_succ]
          refine wpAnyT_ready (rs := [4]) (by kernel_rfl) (by simp) ?_
          refine AllReadyT.cons (i := 4) (o := { dst := some 14, op := Go.Op.call { callee := Go.Callee.value (Go.Operand.func 4), args := #[Go.Operand.tmp 11, Go.Operand.tmp 13], argTypes := #[25, 25] }, type := 27, pos := "law.go:149", after := #[{ on := 1, ground := Go.Ground.data }, { on := 3, ground := Go.Ground.data }, { on := 3, ground := Go.Ground.chain }], guard := none }) rfl (fun K hK => ?_) ?_
          · go_simp
            refine (merge_is _ (fun k => k ≠ w3q.heap.size) t x _ _ R1.out R3.out).mono ?_
            rintro e w4q ⟨r4, rfl, hb, hr⟩
            rw [HM.out] at hr
            rw [HI.out]
            obtain ⟨a3, b3, c3, d3, rfl⟩ := hr.form
            have R4 := hidI (hr.weak (ok' := (fun k => k ≠ w3q.heap.size)) (fun k hk => by have := BX.out.lt; rcases hk with h | h <;> omega))
            replace R1 := hidI (R1.out.bel hb)
            replace R3 := hidI (R3.out.bel hb)
            replace BX := hidI (box_bel hb BX.out)
            refine hK.out _ _ (hHeld.bel hb) (fun hHeld2 => ?_)
            clear hr hb
            clear hK K
            replace hHeld := hHeld2
            clear hHeld2
            try simp only [Act.put, List.setIfInBounds_toArray, List.set_cons_zero, List.set_cons_succ]
            refine wpAnyT_take (i := 5) (v := ?_) [6, 7, 9, 10] (oi := { dst := some 9, op := Go.Op.move (Go.Operand.tmp 14), type := 27, pos := "law.go:149", after := #[{ on := 4, ground := Go.Ground.data }], guard := none }) rfl (by kernel_rfl) (by kernel_rfl) (by kernel_rfl) (by kernel_rfl) (fun _ _ _ h => h) (Or.inl ⟨by rfl, ?_⟩) hHeld ?_
            rotate_left
            · intro wS hSw
              go_simp
              all_goals with_reducible rfl
            simp only [Act.put, List.setIfInBounds_toArray, List.set_cons_zero, List.set_cons_succ]
            refine wpAnyT_take (i := 6) (v := ?_) [9, 10] (oi := { dst := some 15, op := Go.Op.extract (Go.Operand.tmp 9) 0, type := 25, pos := "law.go:149", after := #[{ on := 5, ground := Go.Ground.data }], guard := none }) rfl (by kernel_rfl) (by kernel_rfl) (by kernel_rfl) (by kernel_rfl) (fun _ _ _ h => h) (Or.inl ⟨by rfl, ?_⟩) hHeld ?_
            rotate_left
            · intro wS hSw
              go_simp
              all_goals with_reducible rfl
            simp only [Act.put, List.setIfInBounds_toArray, List.set_cons_zero, List.set_cons_succ]
            refine wpAnyT_takeY (i := 7) (v := ?_) (oi := { dst := some 16, op := Go.Op.extract (Go.Operand.tmp 9) 1, type := 26, pos := "law.go:149", after := #[{ on := 5, ground := Go.Ground.data }, { on := 9, ground := Go.Ground.gcOnly Go.Departure.lateStores }], guard := none }) rfl (by kernel_rfl) (by kernel_rfl) (by kernel_rfl) (by rfl) (fun _ _ _ h => h) (Or.inl ⟨by rfl, ?_⟩) hHeld ?_
            rotate_left
            · intro wS
              go_simp
              all_goals with_reducible rfl
            simp only [Act.put, List.setIfInBounds_toArray, List.set_cons_zero, List.set_cons_succ]
            obtain ⟨o0, o1, o2, o3, o4, f0, f1, f2, f3, f4⟩ := BX.out.c
            have HE := hidI hHeld
            clear hHeld
            refine wpAnyT_last (i := 9) (o := { dst := none, op := Go.Op.store 25 (Go.Operand.tmp 5) (Go.Operand.tmp 15), type := 0, pos := "law.go:149", after := #[{ on := 8, ground := Go.Ground.data }, { on := 6, ground := Go.Ground.data }, { on := 4, ground := Go.Ground.chain }, { on := 0, ground := Go.Ground.phase }, { on := 1, ground := Go.Ground.phase }, { on := 2, ground := Go.Ground.phase }, { on := 3, ground := Go.Ground.phase }, { on := 4, ground := Go.Ground.phase }, { on := 5, ground := Go.Ground.phase }, { on := 6, ground := Go.Ground.phase }, { on := 7, ground := Go.Ground.textOnly Go.Departure.lateStores }, { on := 8, ground := Go.Ground.phase }], guard := none }) (by kernel_rfl) (by rfl) rfl (fun K hK => ?_)
            go_simp
            refine hK.out _ _ ?_
            clear hK K
            try simp only [Act.put, List.setIfInBounds_toArray, List.set_cons_zero, List.set_cons_succ]
            refine wpAnyT_last (i := 10) (o := { dst := some 6, op := Go.Op.assign (Go.Operand.tmp 16), type := 26, pos := "law.go:149", after := #[{ on := 7, ground := Go.Ground.data }, { on := 9, ground := Go.Ground.chain }, { on := 0, ground := Go.Ground.phase }, { on := 1, ground := Go.Ground.phase }, { on := 2, ground := Go.Ground.phase }, { on := 3, ground := Go.Ground.phase }, { on := 4, ground := Go.Ground.phase }, { on := 5, ground := Go.Ground.phase }, { on := 6, ground := Go.Ground.phase }, { on := 7, ground := Go.Ground.phase }, { on := 8, ground := Go.Ground.phase }, { on := 9, ground := Go.Ground.phase }], guard := none }) (by kernel_rfl) (by rfl) rfl (fun K hK => ?_)
            go_simp
            refine hK.out _ _ ?_
            clear hK K
            try simp only [Act.put, List.setIfInBounds_toArray, List.set_cons_zero, List.set_cons_succ]
            refine wpAnyT_done (by kernel_rfl) ?_ _
            go_wp2_with fail
            go_meet
            case rel => exact ⟨_, _, _, _, _, rfl, rfl, HE.out.set (by exact GG.out) _ _ _ _ _, OB.made BX.out R4.out (by exact GG.out)⟩
          exact AllReadyT.nil
        exact AllReadyT.nil
      refine AllReadyT.cons (i := 8) (o := { dst := some 5, op := Go.Op.alloc 25, type := 0, pos := "law.go:149", after := #[], guard := none }) rfl (fun K hK => ?_) ?_
      · go_simp
        have BX : Hid (BoxIs (w1q.alloc (.cells #[.int .i64 0, .int .i64 0, .string ⟨#[]⟩, .slice none 0 0, .slice none 0 0] 25)) w1q.heap.size (.int .i64 0) (.int .i64 0) (.string ⟨#[]⟩) (.slice none 0 0) (.slice none 0 0)) := hidI (heap_alloc_new _ _)
        have GG : Hid (w.heap.size + 2 ≤ w1q.heap.size) := hidI hHeld.2.2.2.2.2
        replace R1 := hidI (((R1.out.low).bel (bel_alloc _ (.cells #[.int .i64 0, .int .i64 0, .string ⟨#[]⟩, .slice none 0 0, .slice none 0 0] 25))).weak (ok' := fun k => k ≠ w1q.heap.size) fun k hk => by have := hk.2; omega)
        refine hK.out _ _ (hHeld.bel (bel_alloc _ (.cells #[.int .i64 0, .int .i64 0, .string ⟨#[]⟩, .slice none 0 0, .slice none 0 0] 25))) (fun hHeld2 => ?_)
        clear hK K
        replace hHeld := hHeld2
        clear hHeld2
        try simp only [Act.put, List.setIfInBounds_toArray, List.set_cons_zero, List.set_cons_succ]
        refine wpAnyT_ready (rs := [3]) (by kernel_rfl) (by simp) ?_
        refine AllReadyT.cons (i := 3) (o := { dst := some 13, op := Go.Op.call { callee := Go.Callee.value (Go.Operand.func 5), args := #[Go.Operand.tmp 12], argTypes := #[25] }, type := 25, pos := "law.go:149", after := #[{ on := 2, ground := Go.Ground.data }, { on := 1, ground := Go.Ground.chain }], guard := none }) rfl (fun K hK => ?_) ?_
        · go_simp
          refine (rcopy_is _ (fun k => k < w.heap.size) x _ (by exact hHeld.2.2.2.1) (by have := NX.out; omega)).mono ?_
          rintro e w3q ⟨r3, rfl, hb, hr⟩
          have R3 := hidI (hr.weak (ok' := (fun k => k ≠ w1q.heap.size)) (fun k hk => by have := BX.out.lt; omega))
          replace R1 := hidI (R1.out.bel hb)
          replace BX := hidI (box_bel hb BX.out)
          refine hK.out _ _ (hHeld.bel hb) (fun hHeld2 => ?_)
          clear hr hb
          clear hK K
          replace hHeld := hHeld2
          clear hHeld2
          try simp only [Act.put, List.setIfInBounds_toArray, List.set_cons_zero, List.set_cons_succ]
          refine wpAnyT_ready (rs := [4]) (by kernel_rfl) (by simp) ?_
          refine AllReadyT.cons (i := 4) (o := { dst := some 14, op := Go.Op.call { callee := Go.Callee.value (Go.Operand.func 4), args := #[Go.Operand.tmp 11, Go.Operand.tmp 13], argTypes := #[25, 25] }, type := 27, pos := "law.go:149", after := #[{ on := 1, ground := Go.Ground.data }, { on := 3, ground := Go.Ground.data }, { on := 3, ground := Go.Ground.chain }], guard := none }) rfl (fun K hK => ?_) ?_
          · go_simp
            refine (merge_is _ (fun k => k ≠ w1q.heap.size) t x _ _ R1.out R3.out).mono ?_
            rintro e w4q ⟨r4, rfl, hb, hr⟩
            rw [HM.out] at hr
            rw [HI.out]
            obtain ⟨a3, b3, c3, d3, rfl⟩ := hr.form
            have R4 := hidI (hr.weak (ok' := (fun k => k ≠ w1q.heap.size)) (fun k hk => by have := BX.out.lt; rcases hk with h | h <;> omega))
            replace R1 := hidI (R1.out.bel hb)
            replace R3 := hidI (R3.out.bel hb)
            replace BX := hidI (box_bel hb BX.out)
            refine hK.out _ _ (hHeld.bel hb) (fun hHeld2 => ?_)
            clear hr hb
            clear hK K
            replace hHeld := hHeld2
            clear hHeld2
            try simp only [Act.put, List.setIfInBounds_toArray, List.set_cons_zero, List.set_cons_succ]
            refine wpAnyT_take (i := 5) (v := ?_) [6, 7, 9, 10] (oi := { dst := some 9, op := Go.Op.move (Go.Operand.tmp 14), type := 27, pos := "law.go:149", after := #[{ on := 4, ground := Go.Ground.data }], guard := none }) rfl (by kernel_rfl) (by kernel_rfl) (by kernel_rfl) (by kernel_rfl) (fun _ _ _ h => h) (Or.inl ⟨by rfl, ?_⟩) hHeld ?_
            rotate_left
            · intro wS hSw
              go_simp
              all_goals with_reducible rfl
            simp only [Act.put, List.setIfInBounds_toArray, List.set_cons_zero, List.set_cons_succ]
            refine wpAnyT_take (i := 6) (v := ?_) [9, 10] (oi := { dst := some 15, op := Go.Op.extract (Go.Operand.tmp 9) 0, type := 25, pos := "law.go:149", after := #[{ on := 5, ground := Go.Ground.data }], guard := none }) rfl (by kernel_rfl) (by kernel_rfl) (by kernel_rfl) (by kernel_rfl) (fun _ _ _ h => h) (Or.inl ⟨by rfl, ?_⟩) hHeld ?_
            rotate_left
            · intro wS hSw
              go_simp
              all_goals with_reducible rfl
            simp only [Act.put, List.setIfInBounds_toArray, List.set_cons_zero, List.set_cons_succ]
            refine wpAnyT_takeY (i := 7) (v := ?_) (oi := { dst := some 16, op := Go.Op.extract (Go.Operand.tmp 9) 1, type := 26, pos := "law.go:149", after := #[{ on := 5, ground := Go.Ground.data }, { on := 9, ground := Go.Ground.gcOnly Go.Departure.lateStores }], guard := none }) rfl (by kernel_rfl) (by kernel_rfl) (by kernel_rfl) (by rfl) (fun _ _ _ h => h) (Or.inl ⟨by rfl, ?_⟩) hHeld ?_
            rotate_left
            · intro wS
              go_simp
              all_goals with_reducible rfl
            simp only [Act.put, List.setIfInBounds_toArray, List.set_cons_zero, List.set_cons_succ]
            obtain ⟨o0, o1, o2, o3, o4, f0, f1, f2, f3, f4⟩ := BX.out.c
            have HE := hidI hHeld
            clear hHeld
            refine wpAnyT_last (i := 9) (o := { dst := none, op := Go.Op.store 25 (Go.Operand.tmp 5) (Go.Operand.tmp 15), type := 0, pos := "law.go:149", after := #[{ on := 8, ground := Go.Ground.data }, { on := 6, ground := Go.Ground.data }, { on := 4, ground := Go.Ground.chain }, { on := 0, ground := Go.Ground.phase }, { on := 1, ground := Go.Ground.phase }, { on := 2, ground := Go.Ground.phase }, { on := 3, ground := Go.Ground.phase }, { on := 4, ground := Go.Ground.phase }, { on := 5, ground := Go.Ground.phase }, { on := 6, ground := Go.Ground.phase }, { on := 7, ground := Go.Ground.textOnly Go.Departure.lateStores }, { on := 8, ground := Go.Ground.phase }], guard := none }) (by kernel_rfl) (by rfl) rfl (fun K hK => ?_)
            go_simp
            refine hK.out _ _ ?_
            clear hK K
            try simp only [Act.put, List.setIfInBounds_toArray, List.set_cons_zero, List.set_cons_succ]
            refine wpAnyT_last (i := 10) (o := { dst := some 6, op := Go.Op.assign (Go.Operand.tmp 16), type := 26, pos := "law.go:149", after := #[{ on := 7, ground := Go.Ground.data }, { on := 9, ground := Go.Ground.chain }, { on := 0, ground := Go.Ground.phase }, { on := 1, ground := Go.Ground.phase }, { on := 2, ground := Go.Ground.phase }, { on := 3, ground := Go.Ground.phase }, { on := 4, ground := Go.Ground.phase }, { on := 5, ground := Go.Ground.phase }, { on := 6, ground := Go.Ground.phase }, { on := 7, ground := Go.Ground.phase }, { on := 8, ground := Go.Ground.phase }, { on := 9, ground := Go.Ground.phase }], guard := none }) (by kernel_rfl) (by rfl) rfl (fun K hK => ?_)
            go_simp
            refine hK.out _ _ ?_
            clear hK K
            try simp only [Act.put, List.setIfInBounds_toArray, List.set_cons_zero, List.set_cons_succ]
            refine wpAnyT_done (by kernel_rfl) ?_ _
            go_wp2_with fail
            go_meet
            case rel => exact ⟨_, _, _, _, _, rfl, rfl, HE.out.set (by exact GG.out) _ _ _ _ _, OB.made BX.out R4.out (by exact GG.out)⟩
          exact AllReadyT.nil
        exact AllReadyT.nil
      exact AllReadyT.nil
    refine AllReadyT.cons (i := 8) (o := { dst := some 5, op := Go.Op.alloc 25, type := 0, pos := "law.go:149", after := #[], guard := none }) rfl (fun K hK => ?_) ?_
    · go_simp
      have BX : Hid (BoxIs (((w.alloc (.cells #[.int .i64 t.kind, .int .i64 t.n, .string ⟨t.s.toArray⟩, .slice a1 t.keys.length c1, .slice b1 t.l.length d1] 25)).alloc (.cells #[.int .i64 x.kind, .int .i64 x.n, .string ⟨x.s.toArray⟩, .slice a2 x.keys.length c2, .slice b2 x.l.length d2] 25)).alloc (.cells #[.int .i64 0, .int .i64 0, .string ⟨#[]⟩, .slice none 0 0, .slice none 0 0] 25)).drew (w.heap.size + 2) (.int .i64 0) (.int .i64 0) (.string ⟨#[]⟩) (.slice none 0 0) (.slice none 0 0)) := hidI (h3c w _ _ _)
      have GG : Hid (w.heap.size + 2 ≤ w.heap.size + 2) := hidI (Nat.le_refl _)
      refine hK.out _ _ ((K0.out.bel (bel_alloc _ (.cells #[.int .i64 0, .int .i64 0, .string ⟨#[]⟩, .slice none 0 0, .slice none 0 0] 25))).bel (bel_drewN _ 1)) (fun hHeld2 => ?_)
      clear hK K
      replace hHeld := hHeld2
      clear hHeld2
      try simp only [Act.put, List.setIfInBounds_toArray, List.set_cons_zero, List.set_cons_succ]
      refine wpAnyT_ready (rs := [1]) (by kernel_rfl) (by simp) ?_
      refine AllReadyT.cons (i := 1) (o := { dst := some 11, op := Go.Op.call { callee := Go.Callee.value (Go.Operand.func 5), args := #[Go.Operand.tmp 10], argTypes := #[25] }, type := 25, pos := "law.go:149", after := #[{ on := 0, ground := Go.Ground.data }], guard := none }) rfl (fun K hK => ?_) ?_
      · go_simp
        refine (rcopy_is _ (fun k => k < w.heap.size) t _ (by exact hHeld.2.2.1) (by have := NT.out; omega)).mono ?_
        rintro e w1q ⟨r1, rfl, hb, hr⟩
        have R1 := hidI (hr.weak (ok' := (fun k => k ≠ (w.heap.size + 2))) (fun k hk => by have := BX.out.lt; omega))
        replace BX := hidI (box_bel hb BX.out)
        refine hK.out _ _ (hHeld.bel hb) (fun hHeld2 => ?_)
        clear hr hb
        clear hK K
        replace hHeld := hHeld2
        clear hHeld2
        try simp only [Act.put, List.setIfInBounds_toArray, List.set_cons_zero, List.set_cons_succ]
        refine wpAnyT_ready (rs := [3]) (by kernel_rfl) (by simp) ?_
        refine AllReadyT.cons (i := 3) (o := { dst := some 13, op := Go.Op.call { callee := Go.Callee.value (Go.Operand.func 5), args := #[Go.Operand.tmp 12], argTypes := #[25] }, type := 25, pos := "law.go:149", after := #[{ on := 2, ground := Go.Ground.data }, { on := 1, ground := Go.Ground.chain }], guard := none }) rfl (fun K hK => ?_) ?_
        · go_simp
          refine (rcopy_is _ (fun k => k < w.heap.size) x _ (by exact hHeld.2.2.2.1) (by have := NX.out; omega)).mono ?_
          rintro e w3q ⟨r3, rfl, hb, hr⟩
          have R3 := hidI (hr.weak (ok' := (fun k => k ≠ (w.heap.size + 2))) (fun k hk => by have := BX.out.lt; omega))
          replace R1 := hidI (R1.out.bel hb)
          replace BX := hidI (box_bel hb BX.out)
          refine hK.out _ _ (hHeld.bel hb) (fun hHeld2 => ?_)
          clear hr hb
          clear hK K
          replace hHeld := hHeld2
          clear hHeld2
          try simp only [Act.put, List.setIfInBounds_toArray, List.set_cons_zero, List.set_cons_succ]
          refine wpAnyT_ready (rs := [4]) (by kernel_rfl) (by simp) ?_
          refine AllReadyT.cons (i := 4) (o := { dst := some 14, op := Go.Op.call { callee := Go.Callee.value (Go.Operand.func 4), args := #[Go.Operand.tmp 11, Go.Operand.tmp 13], argTypes := #[25, 25] }, type := 27, pos := "law.go:149", after := #[{ on := 1, ground := Go.Ground.data }, { on := 3, ground := Go.Ground.data }, { on := 3, ground := Go.Ground.chain }], guard := none }) rfl (fun K hK => ?_) ?_
          · go_simp
            refine (merge_is _ (fun k => k ≠ (w.heap.size + 2)) t x _ _ R1.out R3.out).mono ?_
            rintro e w4q ⟨r4, rfl, hb, hr⟩
            rw [HM.out] at hr
            rw [HI.out]
            obtain ⟨a3, b3, c3, d3, rfl⟩ := hr.form
            have R4 := hidI (hr.weak (ok' := (fun k => k ≠ (w.heap.size + 2))) (fun k hk => by have := BX.out.lt; rcases hk with h | h <;> omega))
            replace R1 := hidI (R1.out.bel hb)
            replace R3 := hidI (R3.out.bel hb)
            replace BX := hidI (box_bel hb BX.out)
            refine hK.out _ _ (hHeld.bel hb) (fun hHeld2 => ?_)
            clear hr hb
            clear hK K
            replace hHeld := hHeld2
            clear hHeld2
            try simp only [Act.put, List.setIfInBounds_toArray, List.set_cons_zero, List.set_cons_succ]
            refine wpAnyT_take (i := 5) (v := ?_) [6, 7, 9, 10] (oi := { dst := some 9, op := Go.Op.move (Go.Operand.tmp 14), type := 27, pos := "law.go:149", after := #[{ on := 4, ground := Go.Ground.data }], guard := none }) rfl (by kernel_rfl) (by kernel_rfl) (by kernel_rfl) (by kernel_rfl) (fun _ _ _ h => h) (Or.inl ⟨by rfl, ?_⟩) hHeld ?_
            rotate_left
            · intro wS hSw
              go_simp
              all_goals with_reducible rfl
            simp only [Act.put, List.setIfInBounds_toArray, List.set_cons_zero, List.set_cons_succ]
            refine wpAnyT_take (i := 6) (v := ?_) [9, 10] (oi := { dst := some 15, op := Go.Op.extract (Go.Operand.tmp 9) 0, type := 25, pos := "law.go:149", after := #[{ on := 5, ground := Go.Ground.data }], guard := none }) rfl (by kernel_rfl) (by kernel_rfl) (by kernel_rfl) (by kernel_rfl) (fun _ _ _ h => h) (Or.inl ⟨by rfl, ?_⟩) hHeld ?_
            rotate_left
            · intro wS hSw
              go_simp
              all_goals with_reducible rfl
            simp only [Act.put, List.setIfInBounds_toArray, List.set_cons_zero, List.set_cons_succ]
            refine wpAnyT_takeY (i := 7) (v := ?_) (oi := { dst := some 16, op := Go.Op.extract (Go.Operand.tmp 9) 1, type := 26, pos := "law.go:149", after := #[{ on := 5, ground := Go.Ground.data }, { on := 9, ground := Go.Ground.gcOnly Go.Departure.lateStores }], guard := none }) rfl (by kernel_rfl) (by kernel_rfl) (by kernel_rfl) (by rfl) (fun _ _ _ h => h) (Or.inl ⟨by rfl, ?_⟩) hHeld ?_
            rotate_left
            · intro wS
              go_simp
              all_goals with_reducible rfl
            simp only [Act.put, List.setIfInBounds_toArray, List.set_cons_zero, List.set_cons_succ]
            obtain ⟨o0, o1, o2, o3, o4, f0, f1, f2, f3, f4⟩ := BX.out.c
            have HE := hidI hHeld
            clear hHeld
            refine wpAnyT_last (i := 9) (o := { dst := none, op := Go.Op.store 25 (Go.Operand.tmp 5) (Go.Operand.tmp 15), type := 0, pos := "law.go:149", after := #[{ on := 8, ground := Go.Ground.data }, { on := 6, ground := Go.Ground.data }, { on := 4, ground := Go.Ground.chain }, { on := 0, ground := Go.Ground.phase }, { on := 1, ground := Go.Ground.phase }, { on := 2, ground := Go.Ground.phase }, { on := 3, ground := Go.Ground.phase }, { on := 4, ground := Go.Ground.phase }, { on := 5, ground := Go.Ground.phase }, { on := 6, ground := Go.Ground.phase }, { on := 7, ground := Go.Ground.textOnly Go.Departure.lateStores }, { on := 8, ground := Go.Ground.phase }], guard := none }) (by kernel_rfl) (by rfl) rfl (fun K hK => ?_)
            go_simp
            refine hK.out _ _ ?_
            clear hK K
            try simp only [Act.put, List.setIfInBounds_toArray, List.set_cons_zero, List.set_cons_succ]
            refine wpAnyT_last (i := 10) (o := { dst := some 6, op := Go.Op.assign (Go.Operand.tmp 16), type := 26, pos := "law.go:149", after := #[{ on := 7, ground := Go.Ground.data }, { on := 9, ground := Go.Ground.chain }, { on := 0, ground := Go.Ground.phase }, { on := 1, ground := Go.Ground.phase }, { on := 2, ground := Go.Ground.phase }, { on := 3, ground := Go.Ground.phase }, { on := 4, ground := Go.Ground.phase }, { on := 5, ground := Go.Ground.phase }, { on := 6, ground := Go.Ground.phase }, { on := 7, ground := Go.Ground.phase }, { on := 8, ground := Go.Ground.phase }, { on := 9, ground := Go.Ground.phase }], guard := none }) (by kernel_rfl) (by rfl) rfl (fun K hK => ?_)
            go_simp
            refine hK.out _ _ ?_
            clear hK K
            try simp only [Act.put, List.setIfInBounds_toArray, List.set_cons_zero, List.set_cons_succ]
            refine wpAnyT_done (by kernel_rfl) ?_ _
            go_wp2_with fail
            go_meet
            case rel => exact ⟨_, _, _, _, _, rfl, rfl, HE.out.set (by exact GG.out) _ _ _ _ _, OB.made BX.out R4.out (by exact GG.out)⟩
          exact AllReadyT.nil
        exact AllReadyT.nil
      exact AllReadyT.nil
    exact AllReadyT.nil
  case rest =>
    obtain ⟨g, a3, b3, c3, d3, rfl, rfl, hmd, hob⟩ := hcut
    have K1 := hidI (And.intro hmd hob)
    clear hmd hob s0 s1 s2 s3 s4 t0 t1 t2 t3 t4 K0 B0
    obtain ⟨s0, s1, s2, s3, s4, -⟩ := K1.out.1.1.c
    obtain ⟨t0, t1, t2, t3, t4, -⟩ := K1.out.1.2.1.c
    go_wp2_with fail
    refine (rmergeV_is _ (fun k => k < w.heap.size) t x _ _ (by exact K1.out.1.2.2.1) (by exact K1.out.1.2.2.2.1) CT.out CX.out).mono ?_
    rintro e w2 ⟨r, rfl, hb, hr⟩
    rw [HM.out] at hr
    rw [HI.out]
    obtain ⟨a4, b4, c4, d4, rfl⟩ := hr.form
    have hbb := bel_trans hb (bel_alloc w2 (.cells #[.int .i64 m.kind, .int .i64 m.n, .string ⟨m.s.toArray⟩, .slice a4 m.keys.length c4, .slice b4 m.l.length d4] 25))
    have K2 : Hid (MD w t x a1 b1 a2 b2 c1 d1 c2 d2 (w2.alloc (.cells #[.int .i64 m.kind, .int .i64 m.n, .string ⟨m.s.toArray⟩, .slice a4 m.keys.length c4, .slice b4 m.l.length d4] 25)) ∧ OB w m a3 b3 c3 d3 g (w2.alloc (.cells #[.int .i64 m.kind, .int .i64 m.n, .string ⟨m.s.toArray⟩, .slice a4 m.keys.length c4, .slice b4 m.l.length d4] 25)) ∧ BoxIs (w2.alloc (.cells #[.int .i64 m.kind, .int .i64 m.n, .string ⟨m.s.toArray⟩, .slice a4 m.keys.length c4, .slice b4 m.l.length d4] 25)) w2.heap.size (.int .i64 m.kind) (.int .i64 m.n) (.string ⟨m.s.toArray⟩) (.slice a4 m.keys.length c4) (.slice b4 m.l.length d4) ∧ In (w2.alloc (.cells #[.int .i64 m.kind, .int .i64 m.n, .string ⟨m.s.toArray⟩, .slice a4 m.keys.length c4, .slice b4 m.l.length d4] 25)) (fun _ => True) m (.agg #[.int .i64 m.kind, .int .i64 m.n, .string ⟨m.s.toArray⟩, .slice a4 m.keys.length c4, .slice b4 m.l.length d4]) ∧ g < w2.heap.size ∧ w.heap.size + 2 ≤ w2.heap.size) := hidI ⟨K1.out.1.bel hbb, K1.out.2.bel hbb, heap_alloc_new _ _, (hr.bel (bel_alloc _ _)).weak fun _ _ => trivial, (box_bel hb K1.out.2.1).lt, Nat.le_trans K1.out.1.2.2.2.2.2 hb.size⟩
    clear hr hb hbb s0 s1 s2 s3 s4 t0 t1 t2 t3 t4 K1
    go_upto_region 3 with fail
    refine wp_region_T (fun wS => MD w t x a1 b1 a2 b2 c1 d1 c2 d2 wS ∧ OB w m a3 b3 c3 d3 g wS ∧ BoxIs wS w2.heap.size (.int .i64 m.kind) (.int .i64 m.n) (.string ⟨m.s.toArray⟩) (.slice a4 m.keys.length c4) (.slice b4 m.l.length d4) ∧ In wS (fun _ => True) m (.agg #[.int .i64 m.kind, .int .i64 m.n, .string ⟨m.s.toArray⟩, .slice a4 m.keys.length c4, .slice b4 m.l.length d4])) [] (by kernel_rfl) ⟨K2.out.1.bel (bel_drewN _ 1), K2.out.2.1.bel (bel_drewN _ 1), box_bel (bel_drewN _ 1) K2.out.2.2.1, K2.out.2.2.2.1.bel (bel_drewN _ 1)⟩ (fun hHeld => ?_)
    have G2 := hidI K2.out.2.2.2.2
    clear K2
    refine wpAnyT_take (i := 0) (v := ?_) [] (oi := { dst := some 23, op := Go.Op.load 25 (Go.Operand.tmp 5), type := 25, pos := "law.go:151", after := #[], guard := none }) rfl (by kernel_rfl) (by kernel_rfl) (by kernel_rfl) (by kernel_rfl) (fun _ _ _ h => h) (Or.inl ⟨by rfl, ?_⟩) hHeld ?_
    rotate_left
    · intro wS hSw
      obtain ⟨v0, v1, v2, v3, v4, -⟩ := hSw.1.1.c
      obtain ⟨y0, y1, y2, y3, y4, -⟩ := hSw.2.1.1.c
      obtain ⟨z0, z1, z2, z3, z4, -⟩ := hSw.2.2.1.c
      go_simp
      all_goals with_reducible rfl
    simp only [Act.put, List.setIfInBounds_toArray, List.set_cons_zero, List.set_cons_succ]
    refine wpAnyT_take (i := 1) (v := ?_) [] (oi := { dst := some 24, op := Go.Op.load 25 (Go.Operand.tmp 7), type := 25, pos := "law.go:151", after := #[], guard := none }) rfl (by kernel_rfl) (by kernel_rfl) (by kernel_rfl) (by kernel_rfl) (fun _ _ _ h => h) (Or.inl ⟨by rfl, ?_⟩) hHeld ?_
    rotate_left
    · intro wS hSw
      obtain ⟨v0, v1, v2, v3, v4, -⟩ := hSw.1.1.c
      obtain ⟨y0, y1, y2, y3, y4, -⟩ := hSw.2.1.1.c
      obtain ⟨z0, z1, z2, z3, z4, -⟩ := hSw.2.2.1.c
      go_simp
      all_goals with_reducible rfl
    simp only [Act.put, List.setIfInBounds_toArray, List.set_cons_zero, List.set_cons_succ]
    refine wpAnyT_ready (rs := [2]) (by kernel_rfl) (by simp) ?_
    refine AllReadyT.cons (i := 2) (o := { dst := some 25, op := Go.Op.call { callee := Go.Callee.value (Go.Operand.func 7), args := #[Go.Operand.tmp 23, Go.Operand.tmp 24], argTypes := #[25, 25] }, type := 4, pos := "law.go:151", after := #[{ on := 0, ground := Go.Ground.data }, { on := 1, ground := Go.Ground.data }], guard := none }) rfl (fun K hK => ?_) ?_
    · go_simp
      refine (rsame_is _ (fun k => k ≠ g) (fun _ => True) m m _ _ (by exact hHeld.2.1.2.1) (by exact hHeld.2.2.2)).mono ?_
      rintro e w2q ⟨rfl, hb⟩
      refine hK.out _ _ (⟨hHeld.1.bel hb, hHeld.2.1.bel hb, box_bel hb hHeld.2.2.1, hHeld.2.2.2.bel hb⟩) (fun hHeld2 => ?_)
      clear hb
      clear hK K
      replace hHeld := hHeld2
      clear hHeld2
      try simp only [Act.put, List.setIfInBounds_toArray, List.set_cons_zero, List.set_cons_succ]
      refine wpAnyT_take (i := 3) (v := ?_) [] (oi := { dst := some 26, op := Go.Op.unOp Go.UnOp.not 4 (Go.Operand.tmp 25), type := 4, pos := "law.go:151", after := #[{ on := 2, ground := Go.Ground.data }], guard := none }) rfl (by kernel_rfl) (by kernel_rfl) (by kernel_rfl) (by kernel_rfl) (fun _ _ _ h => h) (Or.inl ⟨by rfl, ?_⟩) hHeld ?_
      rotate_left
      · intro wS hSw
        go_simp
        all_goals with_reducible rfl
      simp only [Act.put, List.setIfInBounds_toArray, List.set_cons_zero, List.set_cons_succ]
      refine wpAnyT_take (i := 4) (v := ?_) [] (oi := { dst := some 27, op := Go.Op.move (Go.Operand.tmp 26), type := 4, pos := "law.go:151", after := #[{ on := 3, ground := Go.Ground.data }, { on := 2, ground := Go.Ground.chain }], guard := none }) rfl (by kernel_rfl) (by kernel_rfl) (by kernel_rfl) (by kernel_rfl) (fun _ _ _ h => h) (Or.inl ⟨by rfl, ?_⟩) hHeld ?_
      rotate_left
      · intro wS hSw
        go_simp
        all_goals with_reducible rfl
      simp only [Act.put, List.setIfInBounds_toArray, List.set_cons_zero, List.set_cons_succ]
      refine wpAnyT_take (i := 5) (v := ?_) [] (oi := { dst := some 28, op := Go.Op.move (Go.Operand.tmp 6), type := 26, pos := "law.go:151", after := #[{ on := 4, ground := Go.Ground.guard }], guard := some (4, false) }) rfl (by kernel_rfl) (by kernel_rfl) (by kernel_rfl) (by kernel_rfl) (fun _ _ _ h => h) (Or.inl ⟨by rfl, ?_⟩) hHeld ?_
      rotate_left
      · intro wS hSw
        go_simp
        all_goals with_reducible rfl
      simp only [Act.put, List.setIfInBounds_toArray, List.set_cons_zero, List.set_cons_succ]
      refine wpAnyT_take (i := 6) (v := ?_) [] (oi := { dst := some 29, op := Go.Op.move (Go.Operand.tmp 8), type := 26, pos := "law.go:151", after := #[{ on := 4, ground := Go.Ground.guard }], guard := some (4, false) }) rfl (by kernel_rfl) (by kernel_rfl) (by kernel_rfl) (by kernel_rfl) (fun _ _ _ h => h) (Or.inl ⟨by rfl, ?_⟩) hHeld ?_
      rotate_left
      · intro wS hSw
        go_simp
        all_goals with_reducible rfl
      simp only [Act.put, List.setIfInBounds_toArray, List.set_cons_zero, List.set_cons_succ]
      refine wpAnyT_take (i := 7) (v := ?_) [] (oi := { dst := some 30, op := Go.Op.binOp Go.BinOp.neq 26 (Go.Operand.tmp 28) (Go.Operand.tmp 29) 26, type := 4, pos := "law.go:151", after := #[{ on := 5, ground := Go.Ground.data }, { on := 6, ground := Go.Ground.data }, { on := 4, ground := Go.Ground.guard }], guard := some (4, false) }) rfl (by kernel_rfl) (by kernel_rfl) (by kernel_rfl) (by kernel_rfl) (fun _ _ _ h => h) (Or.inl ⟨by rfl, ?_⟩) hHeld ?_
      rotate_left
      · intro wS hSw
        go_simp
        all_goals with_reducible rfl
      simp only [Act.put, List.setIfInBounds_toArray, List.set_cons_zero, List.set_cons_succ]
      refine wpAnyT_take (i := 8) (v := ?_) [] (oi := { dst := some 31, op := Go.Op.pick (Go.Operand.tmp 27) (Go.Operand.const (Go.Value.bool true)) (Go.Operand.tmp 30), type := 4, pos := "law.go:151", after := #[{ on := 4, ground := Go.Ground.data }, { on := 7, ground := Go.Ground.data }], guard := none }) rfl (by kernel_rfl) (by kernel_rfl) (by kernel_rfl) (by kernel_rfl) (fun _ _ _ h => h) (Or.inl ⟨by rfl, ?_⟩) hHeld ?_
      rotate_left
      · intro wS hSw
        go_simp
        all_goals with_reducible rfl
      simp only [Act.put, List.setIfInBounds_toArray, List.set_cons_zero, List.set_cons_succ]
      refine wpAnyT_take (i := 9) (v := ?_) [] (oi := { dst := some 32, op := Go.Op.move (Go.Operand.tmp 31), type := 4, pos := "law.go:151", after := #[{ on := 8, ground := Go.Ground.data }, { on := 4, ground := Go.Ground.chain }], guard := none }) rfl (by kernel_rfl) (by kernel_rfl) (by kernel_rfl) (by kernel_rfl) (fun _ _ _ h => h) (Or.inl ⟨by rfl, ?_⟩) hHeld ?_
      rotate_left
      · intro wS hSw
        go_simp
        all_goals with_reducible rfl
      simp only [Act.put, List.setIfInBounds_toArray, List.set_cons_zero, List.set_cons_succ]
      refine wpAnyT_take (i := 10) (v := ?_) [] (oi := { dst := some 33, op := Go.Op.load 25 (Go.Operand.tmp 2), type := 25, pos := "law.go:151", after := #[{ on := 9, ground := Go.Ground.guard }], guard := some (9, false) }) rfl (by kernel_rfl) (by kernel_rfl) (by kernel_rfl) (by kernel_rfl) (fun _ _ _ h => h) (Or.inl ⟨by rfl, ?_⟩) hHeld ?_
      rotate_left
      · intro wS hSw
        obtain ⟨v0, v1, v2, v3, v4, -⟩ := hSw.1.1.c
        obtain ⟨y0, y1, y2, y3, y4, -⟩ := hSw.2.1.1.c
        obtain ⟨z0, z1, z2, z3, z4, -⟩ := hSw.2.2.1.c
        go_simp
        all_goals with_reducible rfl
      simp only [Act.put, List.setIfInBounds_toArray, List.set_cons_zero, List.set_cons_succ]
      refine wpAnyT_take (i := 12) (v := ?_) [] (oi := { dst := some 35, op := Go.Op.load 25 (Go.Operand.tmp 2), type := 25, pos := "law.go:151", after := #[{ on := 9, ground := Go.Ground.guard }], guard := some (9, false) }) rfl (by kernel_rfl) (by kernel_rfl) (by kernel_rfl) (by kernel_rfl) (fun _ _ _ h => h) (Or.inl ⟨by rfl, ?_⟩) hHeld ?_
      rotate_left
      · intro wS hSw
        obtain ⟨v0, v1, v2, v3, v4, -⟩ := hSw.1.1.c
        obtain ⟨y0, y1, y2, y3, y4, -⟩ := hSw.2.1.1.c
        obtain ⟨z0, z1, z2, z3, z4, -⟩ := hSw.2.2.1.c
        go_simp
        all_goals with_reducible rfl
      simp only [Act.put, List.setIfInBounds_toArray, List.set_cons_zero, List.set_cons_succ]
      refine wpAnyT_ready (rs := [11]) (by kernel_rfl) (by simp) ?_
      refine AllReadyT.cons (i := 11) (o := { dst := some 34, op := Go.Op.call { callee := Go.Callee.value (Go.Operand.func 8), args := #[Go.Operand.tmp 33], argTypes := #[25] }, type := 4, pos := "law.go:151", after := #[{ on := 10, ground := Go.Ground.data }, { on := 9, ground := Go.Ground.chain }, { on := 9, ground := Go.Ground.guard }], guard := some (9, false) }) rfl (fun K hK => ?_) ?_
      · go_simp
        refine (clean_is _ (fun k => k < w.heap.size) t _ (by exact hHeld.1.2.2.1) (by have := CT.out; omega)).mono ?_
        rintro e w11q ⟨rfl, hb⟩
        refine hK.out _ _ (⟨hHeld.1.bel hb, hHeld.2.1.bel hb, box_bel hb hHeld.2.2.1, hHeld.2.2.2.bel hb⟩) (fun hHeld2 => ?_)
        clear hb
        clear hK K
        replace hHeld := hHeld2
        clear hHeld2
        try simp only [Act.put, List.setIfInBounds_toArray, List.set_cons_zero, List.set_cons_succ]
        refine wpAnyT_ready (rs := [13]) (by kernel_rfl) (by simp) ?_
        refine AllReadyT.cons (i := 13) (o := { dst := some 36, op := Go.Op.call { callee := Go.Callee.value (Go.Operand.func 9), args := #[Go.Operand.tmp 35], argTypes := #[25] }, type := 4, pos := "law.go:151", after := #[{ on := 12, ground := Go.Ground.data }, { on := 11, ground := Go.Ground.chain }, { on := 9, ground := Go.Ground.guard }], guard := some (9, false) }) rfl (fun K hK => ?_) ?_
        · go_simp
          refine (isClean_is _ (fun k => k < w.heap.size) t _ (by exact hHeld.1.2.2.1)).mono ?_
          rintro e w13q ⟨rfl, hb⟩
          refine hK.out _ _ (⟨hHeld.1.bel hb, hHeld.2.1.bel hb, box_bel hb hHeld.2.2.1, hHeld.2.2.2.bel hb⟩) (fun hHeld2 => ?_)
          clear hb
          clear hK K
          replace hHeld := hHeld2
          clear hHeld2
          try simp only [Act.put, List.setIfInBounds_toArray, List.set_cons_zero, List.set_cons_succ]
          refine wpAnyT_take (i := 14) (v := ?_) [] (oi := { dst := some 37, op := Go.Op.binOp Go.BinOp.neq 4 (Go.Operand.tmp 34) (Go.Operand.tmp 36) 4, type := 4, pos := "law.go:151", after := #[{ on := 11, ground := Go.Ground.data }, { on := 13, ground := Go.Ground.data }, { on := 9, ground := Go.Ground.guard }], guard := some (9, false) }) rfl (by kernel_rfl) (by kernel_rfl) (by kernel_rfl) (by kernel_rfl) (fun _ _ _ h => h) (Or.inl ⟨by rfl, ?_⟩) hHeld ?_
          rotate_left
          · intro wS hSw
            go_simp
            all_goals with_reducible rfl
          simp only [Act.put, List.setIfInBounds_toArray, List.set_cons_zero, List.set_cons_succ]
          refine wpAnyT_take (i := 15) (v := ?_) [] (oi := { dst := some 38, op := Go.Op.pick (Go.Operand.tmp 32) (Go.Operand.const (Go.Value.bool true)) (Go.Operand.tmp 37), type := 4, pos := "law.go:151", after := #[{ on := 9, ground := Go.Ground.data }, { on := 14, ground := Go.Ground.data }], guard := none }) rfl (by kernel_rfl) (by kernel_rfl) (by kernel_rfl) (by kernel_rfl) (fun _ _ _ h => h) (Or.inl ⟨by rfl, ?_⟩) hHeld ?_
          rotate_left
          · intro wS hSw
            go_simp
            all_goals with_reducible rfl
          simp only [Act.put, List.setIfInBounds_toArray, List.set_cons_zero, List.set_cons_succ]
          refine wpAnyT_done (by kernel_rfl) ?_ _
          have K3 : Hid _ := hidI hHeld
          clear hHeld
          go_upto_region 5 with fail
          refine wp_region_T (fun wS => MD w t x a1 b1 a2 b2 c1 d1 c2 d2 wS ∧ BoxIs wS g (.int .i64 m.kind) (.int .i64 m.n) (.string ⟨m.s.toArray⟩) (.slice a3 m.keys.length c3) (.slice b3 m.l.length d3) ∧ BoxIs wS w2.heap.size (.int .i64 m.kind) (.int .i64 m.n) (.string ⟨m.s.toArray⟩) (.slice a4 m.keys.length c4) (.slice b4 m.l.length d4)) [8] (by kernel_rfl) ⟨K3.out.1.bel (bel_drewN _ 1), box_bel (bel_drewN _ 1) K3.out.2.1.1, box_bel (bel_drewN _ 1) K3.out.2.2.1⟩ (fun hHeld => ?_)
          have G3 := hidI K3.out.2.1.2.2
          clear K3
          refine wpAnyT_take (i := 0) (v := ?_) [1, 3, 4, 5, 6, 7, 8, 9] (oi := { dst := some 40, op := Go.Op.load 25 (Go.Operand.tmp 2), type := 25, pos := "law.go:154", after := #[], guard := none }) rfl (by kernel_rfl) (by kernel_rfl) (by kernel_rfl) (by kernel_rfl) (fun _ _ _ h => h) (Or.inl ⟨by rfl, ?_⟩) hHeld ?_
          rotate_left
          · intro wS hSw
            obtain ⟨v0, v1, v2, v3, v4, -⟩ := hSw.1.1.c
            obtain ⟨y0, y1, y2, y3, y4, -⟩ := hSw.1.2.1.c
            go_simp
            all_goals with_reducible rfl
          simp only [Act.put, List.setIfInBounds_toArray, List.set_cons_zero, List.set_cons_succ]
          refine wpAnyT_take (i := 2) (v := ?_) [3, 4, 5, 6, 7, 8, 9] (oi := { dst := some 42, op := Go.Op.load 25 (Go.Operand.tmp 3), type := 25, pos := "law.go:154", after := #[], guard := none }) rfl (by kernel_rfl) (by kernel_rfl) (by kernel_rfl) (by kernel_rfl) (fun _ _ _ h => h) (Or.inl ⟨by rfl, ?_⟩) hHeld ?_
          rotate_left
          · intro wS hSw
            obtain ⟨v0, v1, v2, v3, v4, -⟩ := hSw.1.1.c
            obtain ⟨y0, y1, y2, y3, y4, -⟩ := hSw.1.2.1.c
            go_simp
            all_goals with_reducible rfl
          simp only [Act.put, List.setIfInBounds_toArray, List.set_cons_zero, List.set_cons_succ]
          refine wpAnyT_ready (rs := [1]) (by kernel_rfl) (by simp) ?_
          refine AllReadyT.cons (i := 1) (o := { dst := some 41, op := Go.Op.call { callee := Go.Callee.value (Go.Operand.func 5), args := #[Go.Operand.tmp 40], argTypes := #[25] }, type := 25, pos := "law.go:154", after := #[{ on := 0, ground := Go.Ground.data }], guard := none }) rfl (fun K hK => ?_) ?_
          · go_simp
            refine (rcopy_is _ (fun k => k < w.heap.size) t _ (by exact hHeld.1.2.2.1) (by have := NT.out; omega)).mono ?_
            rintro e w1q ⟨r1, rfl, hb, hr⟩
            have R1 := hidI (hr.weak (ok' := (fun k => k ≠ g ∧ k ≠ w2.heap.size)) (fun k hk => by have := hHeld.2.1.lt; have := hHeld.2.2.lt; omega))
            refine hK.out _ _ (⟨hHeld.1.bel hb, box_bel hb hHeld.2.1, box_bel hb hHeld.2.2⟩) (fun hHeld2 => ?_)
            clear hr hb
            clear hK K
            replace hHeld := hHeld2
            clear hHeld2
            try simp only [Act.put, List.setIfInBounds_toArray, List.set_cons_zero, List.set_cons_succ]
            refine wpAnyT_ready (rs := [3]) (by kernel_rfl) (by simp) ?_
            refine AllReadyT.cons (i := 3) (o := { dst := some 43, op := Go.Op.call { callee := Go.Callee.value (Go.Operand.func 5), args := #[Go.Operand.tmp 42], argTypes := #[25] }, type := 25, pos := "law.go:154", after := #[{ on := 2, ground := Go.Ground.data }, { on := 1, ground := Go.Ground.chain }], guard := none }) rfl (fun K hK => ?_) ?_
            · go_simp
              refine (rcopy_is _ (fun k => k < w.heap.size) x _ (by exact hHeld.1.2.2.2.1) (by have := NX.out; omega)).mono ?_
              rintro e w3q ⟨r3, rfl, hb, hr⟩
              have R3 := hidI (hr.weak (ok' := (fun k => k ≠ g ∧ k ≠ w2.heap.size)) (fun k hk => by have := hHeld.2.1.lt; have := hHeld.2.2.lt; omega))
              replace R1 := hidI (R1.out.bel hb)
              refine hK.out _ _ (⟨hHeld.1.bel hb, box_bel hb hHeld.2.1, box_bel hb hHeld.2.2⟩) (fun hHeld2 => ?_)
              clear hr hb
              clear hK K
              replace hHeld := hHeld2
              clear hHeld2
              try simp only [Act.put, List.setIfInBounds_toArray, List.set_cons_zero, List.set_cons_succ]
              refine wpAnyT_ready (rs := [4]) (by kernel_rfl) (by simp) ?_
              refine AllReadyT.cons (i := 4) (o := { dst := some 44, op := Go.Op.call { callee := Go.Callee.value (Go.Operand.func 10), args := #[Go.Operand.tmp 41, Go.Operand.tmp 43], argTypes := #[25, 25] }, type := 27, pos := "law.go:154", after := #[{ on := 1, ground := Go.Ground.data }, { on := 3, ground := Go.Ground.data }, { on := 3, ground := Go.Ground.chain }], guard := none }) rfl (fun K hK => ?_) ?_
              · go_simp
                refine (diff_is _ (fun k => k ≠ g ∧ k ≠ w2.heap.size) t x _ _ R1.out R3.out).mono ?_
                rintro e w4q ⟨r4, rfl, hb, hr⟩
                rw [HM2.out] at hr
                rw [HI2.out]
                obtain ⟨a5, b5, c5, d5, rfl⟩ := hr.form
                have R4 := hidI (hr.weak (ok' := (fun k => k ≠ g ∧ k ≠ w2.heap.size)) (fun k hk => by have := hHeld.2.1.lt; have := hHeld.2.2.lt; rcases hk with h | h <;> omega))
                refine hK.out _ _ (⟨hHeld.1.bel hb, box_bel hb hHeld.2.1, box_bel hb hHeld.2.2⟩) (fun hHeld2 => ?_)
                clear hr hb R1 R3
                clear hK K
                replace hHeld := hHeld2
                clear hHeld2
                try simp only [Act.put, List.setIfInBounds_toArray, List.set_cons_zero, List.set_cons_succ]
                refine wpAnyT_take (i := 5) (v := ?_) [6, 7, 8, 9] (oi := { dst := some 39, op := Go.Op.move (Go.Operand.tmp 44), type := 27, pos := "law.go:154", after := #[{ on := 4, ground := Go.Ground.data }], guard := none }) rfl (by kernel_rfl) (by kernel_rfl) (by kernel_rfl) (by kernel_rfl) (fun _ _ _ h => h) (Or.inl ⟨by rfl, ?_⟩) hHeld ?_
                rotate_left
                · intro wS hSw
                  go_simp
                  all_goals with_reducible rfl
                simp only [Act.put, List.setIfInBounds_toArray, List.set_cons_zero, List.set_cons_succ]
                refine wpAnyT_take (i := 6) (v := ?_) [8, 9] (oi := { dst := some 45, op := Go.Op.extract (Go.Operand.tmp 39) 0, type := 25, pos := "law.go:154", after := #[{ on := 5, ground := Go.Ground.data }], guard := none }) rfl (by kernel_rfl) (by kernel_rfl) (by kernel_rfl) (by kernel_rfl) (fun _ _ _ h => h) (Or.inl ⟨by rfl, ?_⟩) hHeld ?_
                rotate_left
                · intro wS hSw
                  go_simp
                  all_goals with_reducible rfl
                simp only [Act.put, List.setIfInBounds_toArray, List.set_cons_zero, List.set_cons_succ]
                refine wpAnyT_takeY (i := 7) (v := ?_) (oi := { dst := some 46, op := Go.Op.extract (Go.Operand.tmp 39) 1, type := 26, pos := "law.go:154", after := #[{ on := 5, ground := Go.Ground.data }, { on := 8, ground := Go.Ground.gcOnly Go.Departure.lateStores }], guard := none }) rfl (by kernel_rfl) (by kernel_rfl) (by kernel_rfl) (by rfl) (fun _ _ _ h => h) (Or.inl ⟨by rfl, ?_⟩) hHeld ?_
                rotate_left
                · intro wS
                  go_simp
                  all_goals with_reducible rfl
                simp only [Act.put, List.setIfInBounds_toArray, List.set_cons_zero, List.set_cons_succ]
                obtain ⟨o0, o1, o2, o3, o4, f0, f1, f2, f3, f4⟩ := hHeld.2.1.c
                have KD : Hid (MD w t x a1 b1 a2 b2 c1 d1 c2 d2 (set5 w4q g (.int .i64 m2.kind) (.int .i64 m2.n) (.string ⟨m2.s.toArray⟩) (.slice a5 m2.keys.length c5) (.slice b5 m2.l.length d5)) ∧ OB w m2 a5 b5 c5 d5 g (set5 w4q g (.int .i64 m2.kind) (.int .i64 m2.n) (.string ⟨m2.s.toArray⟩) (.slice a5 m2.keys.length c5) (.slice b5 m2.l.length d5)) ∧ BoxIs (set5 w4q g (.int .i64 m2.kind) (.int .i64 m2.n) (.string ⟨m2.s.toArray⟩) (.slice a5 m2.keys.length c5) (.slice b5 m2.l.length d5)) w2.heap.size (.int .i64 m.kind) (.int .i64 m.n) (.string ⟨m.s.toArray⟩) (.slice a4 m.keys.length c4) (.slice b4 m.l.length d4)) := hidI ⟨hHeld.1.set G3.out _ _ _ _ _, OB.made hHeld.2.1 (R4.out.weak fun k hk => hk.1) G3.out, hHeld.2.2.grown (set5_gb _ _ _ _ _ _ _) (by have := G2.out.1; simp; omega)⟩
                have RV := hidI (R4.out.grown (set5_gb w4q g (.int .i64 m2.kind) (.int .i64 m2.n) (.string ⟨m2.s.toArray⟩) (.slice a5 m2.keys.length c5) (.slice b5 m2.l.length d5)) (fun k hk => hk.1))
                clear hHeld R4
                refine wpAnyT_last (i := 8) (o := { dst := none, op := Go.Op.store 25 (Go.Operand.tmp 5) (Go.Operand.tmp 45), type := 0, pos := "law.go:154", after := #[{ on := 6, ground := Go.Ground.data }, { on := 4, ground := Go.Ground.chain }, { on := 0, ground := Go.Ground.phase }, { on := 1, ground := Go.Ground.phase }, { on := 2, ground := Go.Ground.phase }, { on := 3, ground := Go.Ground.phase }, { on := 4, ground := Go.Ground.phase }, { on := 5, ground := Go.Ground.phase }, { on := 6, ground := Go.Ground.phase }, { on := 7, ground := Go.Ground.textOnly Go.Departure.lateStores }], guard := none }) (by kernel_rfl) (by rfl) rfl (fun K hK => ?_)
                go_simp
                refine hK.out _ _ ?_
                clear hK K
                try simp only [Act.put, List.setIfInBounds_toArray, List.set_cons_zero, List.set_cons_succ]
                refine wpAnyT_last (i := 9) (o := { dst := some 6, op := Go.Op.assign (Go.Operand.tmp 46), type := 26, pos := "law.go:154", after := #[{ on := 7, ground := Go.Ground.data }, { on := 8, ground := Go.Ground.chain }, { on := 0, ground := Go.Ground.phase }, { on := 1, ground := Go.Ground.phase }, { on := 2, ground := Go.Ground.phase }, { on := 3, ground := Go.Ground.phase }, { on := 4, ground := Go.Ground.phase }, { on := 5, ground := Go.Ground.phase }, { on := 6, ground := Go.Ground.phase }, { on := 7, ground := Go.Ground.phase }, { on := 8, ground := Go.Ground.phase }], guard := none }) (by kernel_rfl) (by rfl) rfl (fun K hK => ?_)
                go_simp
                refine hK.out _ _ ?_
                clear hK K
                try simp only [Act.put, List.setIfInBounds_toArray, List.set_cons_zero, List.set_cons_succ]
                refine wpAnyT_done (by kernel_rfl) ?_ _
                obtain ⟨s0, s1, s2, s3, s4, -⟩ := KD.out.1.1.c
                obtain ⟨t0, t1, t2, t3, t4, -⟩ := KD.out.1.2.1.c
                have KE : Hid (∀ W, W = (set5 w4q g (.int .i64 m2.kind) (.int .i64 m2.n) (.string ⟨m2.s.toArray⟩) (.slice a5 m2.keys.length c5) (.slice b5 m2.l.length d5)) → MD w t x a1 b1 a2 b2 c1 d1 c2 d2 W ∧ OB w m2 a5 b5 c5 d5 g W ∧ BoxIs W w2.heap.size (.int .i64 m.kind) (.int .i64 m.n) (.string ⟨m.s.toArray⟩) (.slice a4 m.keys.length c4) (.slice b4 m.l.length d4)) := hidI (by rintro W rfl; exact KD.out)
                clear KD
                simp only [set5] at s0 s1 s2 s3 s4 t0 t1 t2 t3 t4
                go_wp2_with fail
                refine (rdiffV_is _ (fun k => k < w.heap.size) t x _ _ (by exact (KE.out _ rfl).1.2.2.1) (by exact (KE.out _ rfl).1.2.2.2.1) CT.out CX.out).mono ?_
                rintro e w6 ⟨r, rfl, hb, hr⟩
                rw [HM2.out] at hr
                rw [HI2.out]
                obtain ⟨a6, b6, c6, d6, rfl⟩ := hr.form
                have K6 : Hid (MD w t x a1 b1 a2 b2 c1 d1 c2 d2 w6 ∧ OB w m2 a5 b5 c5 d5 g w6 ∧ BoxIs w6 w2.heap.size (.int .i64 m.kind) (.int .i64 m.n) (.string ⟨m.s.toArray⟩) (.slice a4 m.keys.length c4) (.slice b4 m.l.length d4) ∧ In w6 (fun k => k ≠ w2.heap.size) m2 (.agg #[.int .i64 m2.kind, .int .i64 m2.n, .string ⟨m2.s.toArray⟩, .slice a6 m2.keys.length c6, .slice b6 m2.l.length d6])) := hidI ⟨(KE.out _ rfl).1.bel hb, (KE.out _ rfl).2.1.bel hb, box_bel hb (KE.out _ rfl).2.2, hr.weak fun k hk => by exact hk.elim (fun h => by have := G2.out.2; omega) (fun h => Nat.ne_of_gt (Nat.lt_of_lt_of_le (KE.out _ rfl).2.2.lt h))⟩
                have K7 : Hid (MD w t x a1 b1 a2 b2 c1 d1 c2 d2 (set5 w6 w2.heap.size (.int .i64 m2.kind) (.int .i64 m2.n) (.string ⟨m2.s.toArray⟩) (.slice a6 m2.keys.length c6) (.slice b6 m2.l.length d6)) ∧ BoxIs (set5 w6 w2.heap.size (.int .i64 m2.kind) (.int .i64 m2.n) (.string ⟨m2.s.toArray⟩) (.slice a6 m2.keys.length c6) (.slice b6 m2.l.length d6)) g (.int .i64 m2.kind) (.int .i64 m2.n) (.string ⟨m2.s.toArray⟩) (.slice a5 m2.keys.length c5) (.slice b5 m2.l.length d5) ∧ BoxIs (set5 w6 w2.heap.size (.int .i64 m2.kind) (.int .i64 m2.n) (.string ⟨m2.s.toArray⟩) (.slice a6 m2.keys.length c6) (.slice b6 m2.l.length d6)) w2.heap.size (.int .i64 m2.kind) (.int .i64 m2.n) (.string ⟨m2.s.toArray⟩) (.slice a6 m2.keys.length c6) (.slice b6 m2.l.length d6) ∧ In (set5 w6 w2.heap.size (.int .i64 m2.kind) (.int .i64 m2.n) (.string ⟨m2.s.toArray⟩) (.slice a6 m2.keys.length c6) (.slice b6 m2.l.length d6)) (fun _ => True) m2 (.agg #[.int .i64 m2.kind, .int .i64 m2.n, .string ⟨m2.s.toArray⟩, .slice a6 m2.keys.length c6, .slice b6 m2.l.length d6])) := hidI ⟨K6.out.1.set G2.out.2 _ _ _ _ _, K6.out.2.1.1.grown (set5_gb _ _ _ _ _ _ _) (by have := G2.out.1; simp; omega), K6.out.2.2.1.set _ _ _ _ _, (K6.out.2.2.2.grown (set5_gb _ _ _ _ _ _ _) (fun k hk => hk)).weak fun _ _ => trivial⟩
                have K8 : Hid (In (set5 w6 w2.heap.size (.int .i64 m2.kind) (.int .i64 m2.n) (.string ⟨m2.s.toArray⟩) (.slice a6 m2.keys.length c6) (.slice b6 m2.l.length d6)) (fun _ => True) m2 (.agg #[.int .i64 m2.kind, .int .i64 m2.n, .string ⟨m2.s.toArray⟩, .slice a5 m2.keys.length c5, .slice b5 m2.l.length d5])) := hidI ((In.grown (by exact RV.out.bel hb : In w6 (fun k => k ≠ g ∧ k ≠ w2.heap.size) m2 (.agg #[.int .i64 m2.kind, .int .i64 m2.n, .string ⟨m2.s.toArray⟩, .slice a5 m2.keys.length c5, .slice b5 m2.l.length d5])) (set5_gb w6 w2.heap.size (.int .i64 m2.kind) (.int .i64 m2.n) (.string ⟨m2.s.toArray⟩) (.slice a6 m2.keys.length c6) (.slice b6 m2.l.length d6)) (fun k hk => hk.2)).weak fun _ _ => trivial)
                clear hr hb s0 s1 s2 s3 s4 t0 t1 t2 t3 t4 KE RV
                obtain ⟨o0, o1, o2, o3, o4, f0, f1, f2, f3, f4⟩ := K6.out.2.2.1.c
                obtain ⟨s0, s1, s2, s3, s4, -⟩ := K7.out.2.1.c
                obtain ⟨t0, t1, t2, t3, t4, -⟩ := K7.out.2.2.1.c
                simp only [set5] at s0 s1 s2 s3 s4 t0 t1 t2 t3 t4
                go_wp2_with fail
                refine (rsame_is _ (fun _ => True) (fun _ => True) m2 m2 _ _ ?_ ?_).mono ?_
                · exact K8.out
                · exact K7.out.2.2.2
                rintro e w8 ⟨rfl, hb⟩
                have B8 := hidI (bel_trans K7.out.1.2.2.2.2.1 hb)
                clear hb s0 s1 s2 s3 s4 t0 t1 t2 t3 t4 o0 o1 o2 o3 o4 f0 f1 f2 f3 f4
                go_wp2_with fail
                refine (lmerges_at _ (by exact HG.out.grown (gb_below (r := none) B8.out) (by simp))).mono ?_
                rintro e w9 ⟨rfl, hb⟩
                have B9 := hidI (bel_trans B8.out hb)
                clear hb
                go_wp2_with fail
                go_ret
                exact ⟨rfl, B9.out⟩
              exact AllReadyT.nil
            exact AllReadyT.nil
          exact AllReadyT.nil
        exact AllReadyT.nil
      exact AllReadyT.nil
    exact AllReadyT.nil
end Go.Proofs.YtfbddgpekbhpfacGreatDoor
