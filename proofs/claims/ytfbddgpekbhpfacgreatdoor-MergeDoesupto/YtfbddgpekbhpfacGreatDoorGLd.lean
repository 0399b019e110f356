/- Whatever it is handed, MergeDoes answers true and leaves all as it was.
   Its conditions: what it is handed is of bulk at most 1048576 (values and letters); the listed package-level variables hold what the program's text lays (the card ties them, over a pruned copy of the project). -/
import Derived.Test.YtfbddgpekbhpfacGreatDoorGFr
import Derived.Test.YtfbddgpekbhpfacGreatDoorGFz
import Derived.Test.YtfbddgpekbhpfacGreatDoorGMj
import Derived.Test.YtfbddgpekbhpfacGreatDoorKd
import Derived.Test.YtfbddgpekbhpfacGreatDoorRows
import Derived.Test.YtfbddgpekbhpfacGreatDoorKa
/- A region that draws its order: what yields its value in whatever world is taken first, whatever waits. -/
set_option linter.unusedSimpArgs false
set_option linter.unusedVariables false
namespace Go.Proofs.YtfbddgpekbhpfacGreatDoor
open Go

section
variable {P : Program} {ops : Array Oper} {Q : Exit → Act → World → Prop} {md : Region.Mode} {S : World → Prop} {T : List Nat}

theorem until_mono {listed : Array Bool} {i : Nat} {T : List Nat} (h : untilB T (listed.setIfInBounds i true) = true) : untilB T listed = true := by
  unfold untilB at h ⊢
  rw [List.all_eq_true] at h ⊢
  intro t ht
  have h0 := h t ht
  by_cases e : i = t
  · subst e
    by_cases hs : i < listed.size
    · simp [Array.getD, hs] at h0
    · simp [Array.getD, hs] at h0
  · rw [getD_set_ne true e] at h0; exact h0
theorem until_set {listed : Array Bool} {i : Nat} {T : List Nat} (hi : i ∉ T) (h : untilB T listed = true) : untilB T (listed.setIfInBounds i true) = true := by
  unfold untilB at h ⊢
  rw [List.all_eq_true] at h ⊢
  intro t ht
  have e : i ≠ t := fun e => hi (e ▸ ht)
  rw [getD_set_ne true e]; exact h t ht
/- What yields its value in whatever world is taken first whatever waits. -/
theorem wpAnyT_firstY {i : Nat} {oi : Oper} {v : Value} (hi : ops[i]? = some oi) (hsel : ∀ (j : Nat) (o : Oper) cs b, ops[j]? = some o → o.op ≠ .select cs b)
    (hQ : ∀ c a w, Q (.panic c) (a.put oi.dst v) w → Q (.panic c) a w) (hiT : i ∉ T) :
    ∀ (fuel : Nat) (listed : Array Bool) (a : Act) (w : World),
      (∀ j oj, ops[j]? = some oj → j ≠ i → listed.getD j true = false → (∀ e ∈ oj.after, Region.binds md e = true → e.on ≠ i) → oi.apart ops oj = true) →
      i ∈ Region.ready md ops listed → Yields P ops oi v a → (untilB T listed = true → S w) →
      wpAnyT P md ops Q S T fuel (listed.setIfInBounds i true) (a.put oi.dst v) w → wpAnyT P md ops Q S T (fuel + 1) listed a w := by
  intro fuel
  induction fuel with
  | zero =>
    intro listed a w _ hr hy hS H
    refine ⟨fun h => (by rw [h] at hr; cases hr), fun j hj => ?_⟩
    by_cases hji : j = i
    · subst hji; exact hy.wpOp hi ⟨fun h => hS (until_mono h), H⟩
    · have := ready_mono hj hji
      rw [H.1] at this
      cases this
  | succ fuel ih =>
    intro listed a w hfree hr hy hS H
    refine ⟨fun h => (by rw [h] at hr; cases hr), fun j hj => ?_⟩
    by_cases hji : j = i
    · subst hji; exact hy.wpOp hi ⟨fun h => hS (until_mono h), H⟩
    · have h1 := H.2 j (ready_mono hj hji)
      obtain ⟨hjun, oj, hoj, hall⟩ := mem_ready.1 hj
      have hnot : ∀ e ∈ oj.after, Region.binds md e = true → e.on ≠ i := fun e he hb heq => by
        have h1 := hall e he hb
        have h0 := (mem_ready.1 hr).1
        rw [heq] at h1
        rcases Nat.lt_or_ge i listed.size with h' | h'
        · simp [h'] at h0 h1; rw [h0] at h1; cases h1
        · simp [Array.getElem?_eq_none h'] at h1
      have h2 := wpOp_put hoj (hfree j oj hoj hji hjun hnot) (fun cs b => hsel i oi cs b hi) (fun cs b => hsel j oj cs b hoj) hQ hy h1
      have hfree' : ∀ k ok, ops[k]? = some ok → k ≠ i → (listed.setIfInBounds j true).getD k true = false →
          (∀ e ∈ ok.after, Region.binds md e = true → e.on ≠ i) → oi.apart ops ok = true := fun k ok hk hki hun hno => by
        refine hfree k ok hk hki ?_ hno
        by_cases hjk : j = k
        · subst hjk; exact hjun
        · rw [getD_set_ne true hjk] at hun; exact hun
      refine wpOp_mono (fun a' w' h3 => ?_) h2
      have hs : untilB T (listed.setIfInBounds j true) = true → S w' := fun h => h3.2.1 (by rw [Array.setIfInBounds_comm _ _ (Ne.symm hji)]; exact until_set hiT h)
      refine ⟨hs, ih (listed.setIfInBounds j true) a' w' hfree' (ready_mono hr (Ne.symm hji)) h3.1 hs ?_⟩
      rw [Array.setIfInBounds_comm _ _ hji]
      exact h3.2.2
theorem wpAnyT_takeY {i : Nat} {oi : Oper} {v : Value} {fuel : Nat} {listed : Array Bool} {a : Act} {w : World} (hi : ops[i]? = some oi)
    (hs : Region.noSelect ops = true) (hf : Region.free md ops listed i = true) (hr : (Region.ready md ops listed).contains i = true) (hT : T.contains i = false)
    (hQ : ∀ c a w, Q (.panic c) (a.put oi.dst v) w → Q (.panic c) a w) (hy : Yields P ops oi v a) (hS : S w)
    (h : wpAnyT P md ops Q S T fuel (listed.setIfInBounds i true) (a.put oi.dst v) w) : wpAnyT P md ops Q S T (fuel + 1) listed a w :=
  wpAnyT_firstY hi (Region.noSelect_spec hs) hQ (by simpa using hT) fuel listed a w (Region.free_spec hi hf) (by simpa using hr) hy (fun _ => hS) h
end
end Go.Proofs.YtfbddgpekbhpfacGreatDoor

/- What MergeDoes of package stairwelllaw answers. -/
set_option linter.unusedSimpArgs false
set_option linter.unusedVariables false
namespace Go.Proofs.YtfbddgpekbhpfacGreatDoor
open Go.RowKit

/- Both values. -/
def MD (w : World) (t x : V) (a1 b1 a2 b2 : Option Addr) (c1 d1 c2 d2 : Nat) (W : World) : Prop := BoxIs W w.heap.size (.int .i64 t.kind) (.int .i64 t.n) (.string ⟨t.s.toArray⟩) (.slice a1 t.keys.length c1) (.slice b1 t.l.length d1) ∧ BoxIs W (w.heap.size + 1) (.int .i64 x.kind) (.int .i64 x.n) (.string ⟨x.s.toArray⟩) (.slice a2 x.keys.length c2) (.slice b2 x.l.length d2) ∧ In W (fun k => k < w.heap.size) t (.agg #[.int .i64 t.kind, .int .i64 t.n, .string ⟨t.s.toArray⟩, .slice a1 t.keys.length c1, .slice b1 t.l.length d1]) ∧ In W (fun k => k < w.heap.size) x (.agg #[.int .i64 x.kind, .int .i64 x.n, .string ⟨x.s.toArray⟩, .slice a2 x.keys.length c2, .slice b2 x.l.length d2]) ∧ Below w.heap.size w W ∧ w.heap.size + 2 ≤ W.heap.size
theorem MD.bel {w W W' : World} {t x : V} {a1 b1 a2 b2 : Option Addr} {c1 d1 c2 d2 : Nat} (h : MD w t x a1 b1 a2 b2 c1 d1 c2 d2 W) (hb : Below W.heap.size W W') : MD w t x a1 b1 a2 b2 c1 d1 c2 d2 W' :=
  ⟨box_bel hb h.1, box_bel hb h.2.1, h.2.2.1.bel hb, h.2.2.2.1.bel hb, bel_trans h.2.2.2.2.1 hb, Nat.le_trans h.2.2.2.2.2 hb.size⟩
/- A value in a box of its own. -/
def OB (w : World) (m : V) (a3 b3 : Option Addr) (c3 d3 : Nat) (g : Nat) (W : World) : Prop := BoxIs W g (.int .i64 m.kind) (.int .i64 m.n) (.string ⟨m.s.toArray⟩) (.slice a3 m.keys.length c3) (.slice b3 m.l.length d3) ∧ In W (fun k => k ≠ g) m (.agg #[.int .i64 m.kind, .int .i64 m.n, .string ⟨m.s.toArray⟩, .slice a3 m.keys.length c3, .slice b3 m.l.length d3]) ∧ w.heap.size + 2 ≤ g
theorem OB.bel {w W W' : World} {m : V} {a3 b3 : Option Addr} {c3 d3 : Nat} {g : Nat} (h : OB w m a3 b3 c3 d3 g W) (hb : Below W.heap.size W W') : OB w m a3 b3 c3 d3 g W' := ⟨box_bel hb h.1, h.2.1.bel hb, h.2.2⟩
theorem in_ne {W : World} {m : V} {v : Value} {B g : Nat} (h : In W (fun k => B ≤ k) m v) (hg : g < B) : In W (fun k => k ≠ g) m v := h.weak fun k hk => by omega
theorem MD.set {w W : World} {t x : V} {a1 b1 a2 b2 : Option Addr} {c1 d1 c2 d2 : Nat} {g : Nat} (h : MD w t x a1 b1 a2 b2 c1 d1 c2 d2 W) (hg : w.heap.size + 2 ≤ g) (v0 v1 v2 v3 v4 : Value) : MD w t x a1 b1 a2 b2 c1 d1 c2 d2 (set5 W g v0 v1 v2 v3 v4) := by
  have gs := set5_gb W g v0 v1 v2 v3 v4
  exact ⟨h.1.grown gs (by simp; omega), h.2.1.grown gs (by simp; omega), h.2.2.1.grown gs (fun k hk => by omega), h.2.2.2.1.grown gs (fun k hk => by omega), bel_set5 h.2.2.2.2.1 (by omega) _ _ _ _ _, Nat.le_trans h.2.2.2.2.2 gs.size⟩
theorem OB.made {w W : World} {m : V} {a3 b3 : Option Addr} {c3 d3 : Nat} {g : Nat} {v0 v1 v2 v3 v4 : Value} (hb : BoxIs W g v0 v1 v2 v3 v4) (hm : In W (fun k => k ≠ g) m (.agg #[.int .i64 m.kind, .int .i64 m.n, .string ⟨m.s.toArray⟩, .slice a3 m.keys.length c3, .slice b3 m.l.length d3])) (hg : w.heap.size + 2 ≤ g) : OB w m a3 b3 c3 d3 g (set5 W g (.int .i64 m.kind) (.int .i64 m.n) (.string ⟨m.s.toArray⟩) (.slice a3 m.keys.length c3) (.slice b3 m.l.length d3)) :=
  ⟨hb.set _ _ _ _ _, hm.grown (set5_gb W g _ _ _ _ _) (fun k hk => hk), hg⟩

attribute [local go_sem ↓] Go.wp_at_zero Go.wp_at_succ
open Classical in
set_option maxRecDepth 100000 in
set_option maxHeartbeats 4000000 in
theorem mergeDoes_walk (w : World) (okt : Nat → Prop) (dt : Nat) (t : V) (vt : Value) (ht : VIs w okt dt t vt) (hNt : siz t ≤ 2000000) (okx : Nat → Prop) (dx : Nat) (x : V) (vx : Value) (hx : VIs w okx dx x vx) (hNx : siz x ≤ 2000000) (hG : Glob w) :
    Calls Tryz.prog 3 #[vt, vx] w fun e w' => e = .returned (.bool true) ∧ Below w.heap.size w w' := by
  have HG := hidI hG
  have CT : Hid (cnt t ≤ 2000000) := hidI (Nat.le_trans (cnt_siz t) hNt)
  have CX : Hid (cnt x ≤ 2000000) := hidI (Nat.le_trans (cnt_siz x) hNx)
  have NT := hidI hNt
  have NX := hidI hNx
  have qt := ht.is.low
  have Ht : Hid (In w (fun k => k < w.heap.size) t vt) := hidI (qt.weak fun k hk => hk.2)
  obtain ⟨la1, lb1, lc1⟩ := qt.lens
  obtain ⟨a1, b1, c1, d1, rfl⟩ := qt.form
  clear qt ht
  have qx := hx.is.low
  have Hx : Hid (In w (fun k => k < w.heap.size) x vx) := hidI (qx.weak fun k hk => hk.2)
  obtain ⟨la2, lb2, lc2⟩ := qx.lens
  obtain ⟨a2, b2, c2, d2, rfl⟩ := qx.form
  clear qx hx
  clear hG hNt hNx
  obtain ⟨m, hm⟩ : ∃ m, (mergeR t x).1 = m := ⟨_, rfl⟩
  obtain ⟨i1, hi1⟩ : ∃ i, (mergeR t x).2 = i := ⟨_, rfl⟩
  obtain ⟨m2, hm2⟩ : ∃ m, (diffR t x).1 = m := ⟨_, rfl⟩
  obtain ⟨i2, hi2⟩ : ∃ i, (diffR t x).2 = i := ⟨_, rfl⟩
  have HM := hidI hm
  have HI := hidI hi1
  have HM2 := hidI hm2
  have HI2 := hidI hi2
  clear hm hi1 hm2 hi2
  have B0 : Hid (Below w.heap.size w ((w.alloc (.cells #[.int .i64 t.kind, .int .i64 t.n, .string ⟨t.s.toArray⟩, .slice a1 t.keys.length c1, .slice b1 t.l.length d1] 25)).alloc (.cells #[.int .i64 x.kind, .int .i64 x.n, .string ⟨x.s.toArray⟩, .slice a2 x.keys.length c2, .slice b2 x.l.length d2] 25))) := hidI (bel_trans (bel_alloc _ _) (bel_alloc _ _))
  have K0 : Hid (MD w t x a1 b1 a2 b2 c1 d1 c2 d2 ((w.alloc (.cells #[.int .i64 t.kind, .int .i64 t.n, .string ⟨t.s.toArray⟩, .slice a1 t.keys.length c1, .slice b1 t.l.length d1] 25)).alloc (.cells #[.int .i64 x.kind, .int .i64 x.n, .string ⟨x.s.toArray⟩, .slice a2 x.keys.length c2, .slice b2 x.l.length d2] 25))) := hidI ⟨h2a w _ _, h2b w _ _, Ht.out.bel B0.out, Hx.out.bel B0.out, B0.out, by simp⟩
  obtain ⟨s0, s1, s2, s3, s4, -⟩ := K0.out.1.c
  obtain ⟨t0, t1, t2, t3, t4, -⟩ := K0.out.2.1.c
  go_enter Tryz.func3, Tryz.ntmps3
  go_upto_region 1 with fail
  go_cut [5, 6] (fun p e wc => ∃ (g : Nat) (a3 b3 : Option Addr) (c3 d3 : Nat), p = .pointer (some ⟨g, 0, none⟩) ∧ e = .int .i64 i1 ∧ MD w t x a1 b1 a2 b2 c1 d1 c2 d2 wc ∧ OB w m a3 b3 c3 d3 g wc)
  case first =>
    clear s0 s1 s2 s3 s4 t0 t1 t2 t3 t4
    refine wp_region_T (fun wS => MD w t x a1 b1 a2 b2 c1 d1 c2 d2 wS) [9] (by kernel_rfl) (K0.out.bel (bel_drewN _ 1)) (fun hHeld => ?_)
    refine wpAnyT_take (i := 0) (v := ?_) [1, 3, 4, 5, 6, 7, 9, 10] (oi := { dst := some 10, op := Go.Op.load 25 (Go.Operand.tmp 2), type := 25, pos := "law.go:149", after := #[], guard := none }) rfl (by kernel_rfl) (by kernel_rfl) (by kernel_rfl) (by kernel_rfl) (fun _ _ _ h => h) (Or.inl ⟨by rfl, ?_⟩) hHeld ?_
    rotate_left
    · intro wS hSw
      obtain ⟨v0, v1, v2, v3, v4, -⟩ := hSw.1.c
      obtain ⟨y0, y1, y2, y3, y4, -⟩ := hSw.2.1.c
      go_simp
      all_goals with_reducible rfl
    simp only [Act.put, List.setIfInBounds_toArray, List.set_cons_zero, List.set_cons_succ]
    refine wpAnyT_take (i := 2) (v := ?_) [3, 4, 5, 6, 7, 9, 10] (oi := { dst := some 12, op := Go.Op.load 25 (Go.Operand.tmp 3), type := 25, pos := "law.go:149", after := #[], guard := none }) rfl (by kernel_rfl) (by kernel_rfl) (by kernel_rfl) (by kernel_rfl) (fun _ _ _ h => h) (Or.inl ⟨by rfl, ?_⟩) hHeld ?_
    rotate_left
    · intro wS hSw
      obtain ⟨v0, v1, v2, v3, v4, -⟩ := hSw.1.c
      obtain ⟨y0, y1, y2, y3, y4, -⟩ := hSw.2.1.c
      go_simp
      all_goals with_reducible rfl
    simp only [Act.put, List.setIfInBounds_toArray, List.set_cons_zero, List.set_cons_succ]
    refine wpAnyT_ready (rs := [1, 8]) (by kernel_rfl) (by simp) ?_
    refine AllReadyT.cons (i := 1) (o := { dst := some 11, op := Go.Op.call { callee := Go.Callee.value (Go.Operand.func 5), args := #[Go.Operand.tmp 10], argTypes := #[25] }, type := 25, pos := "law.go:149", after := #[{ on := 0, ground := Go.Ground.data }], guard := none }) rfl (fun K hK => ?_) ?_
    · go_simp
      refine (rcopy_is _ (fun k => k < w.heap.size) t _ (by exact hHeld.2.2.1) (by have := NT.out; omega)).mono ?_
      rintro e w1q ⟨r1, rfl, hb, hr⟩
      have R1 := hidI (hr.weak (ok' := (fun _ => True)) (fun _ _ => trivial))
      refine hK.out _ _ (hHeld.bel hb) (fun hHeld2 => ?_)
      clear hr hb
      clear hK K
      replace hHeld := hHeld2
      clear hHeld2
      try simp only [Act.put, List.setIfInBounds_toArray, List.set_cons_zero, List.set_cons_succ]
      refine wpAnyT_ready (rs := [3, 8]) (by kernel_rfl) (by simp) ?_
      refine AllReadyT.cons (i := 3) (o := { dst := some 13, op := Go.Op.call { callee := Go.Callee.value (Go.Operand.func 5), args := #[Go.Operand.tmp 12], argTypes := #[25] }, type := 25, pos := "law.go:149", after := #[{ on := 2, ground := Go.Ground.data }, { on := 1, ground := Go.Ground.chain }], guard := none }) rfl (fun K hK => ?_) ?_
      · go_simp
        refine (rcopy_is _ (fun k => k < w.heap.size) x _ (by exact hHeld.2.2.2.1) (by have := NX.out; omega)).mono ?_
        rintro e w3q ⟨r3, rfl, hb, hr⟩
        have R3 := hidI (hr.weak (ok' := (fun _ => True)) (fun _ _ => trivial))
        replace R1 := hidI (R1.out.bel hb)
        refine hK.out _ _ (hHeld.bel hb) (fun hHeld2 => ?_)
        clear hr hb
        clear hK K
        replace hHeld := hHeld2
        clear hHeld2
        try simp only [Act.put, List.setIfInBounds_toArray, List.set_cons_zero, List.set_cons_succ]
        refine wpAnyT_ready (rs := [4, 8]) (by kernel_rfl) (by simp) ?_
        refine AllReadyT.cons (i := 4) (o := { dst := some 14, op := Go.Op.call { callee := Go.Callee.value (Go.Operand.func 4), args := #[Go.Operand.tmp 11, Go.Operand.tmp 13], argTypes := #[25, 25] }, type := 27, pos := "law.go:149", after := #[{ on := 1, ground := Go.Ground.data }, { on := 3, ground := Go.Ground.data }, { on := 3, ground := Go.Ground.chain }], guard := none }) rfl (fun K hK => ?_) ?_
        · go_simp
          refine (merge_is _ (fun _ => True) t x _ _ R1.out R3.out).mono ?_
          rintro e w4q ⟨r4, rfl, hb, hr⟩
          rw [HM.out] at hr
          rw [HI.out]
          obtain ⟨a3, b3, c3, d3, rfl⟩ := hr.form
          have R4 := hidI (hr.weak (ok' := (fun _ => True)) (fun _ _ => trivial))
          replace R1 := hidI (R1.out.bel hb)
          replace R3 := hidI (R3.out.bel hb)
          refine hK.out _ _ (hHeld.bel hb) (fun hHeld2 => ?_)
          clear hr hb
          clear hK K
          replace hHeld := hHeld2
          clear hHeld2
          try simp only [Act.put, List.setIfInBounds_toArray, List.set_cons_zero, List.set_cons_succ]
          refine wpAnyT_take (i := 5) (v := ?_) [6, 7, 9, 10] (oi := { dst := some 9, op := Go.Op.move (Go.Operand.tmp 14), type := 27, pos := "law.go:149", after := #[{ on := 4, ground := Go.Ground.data }], guard := none }) rfl (by kernel_rfl) (by kernel_rfl) (by kernel_rfl) (by kernel_rfl) (fun _ _ _ h => h) (Or.inl ⟨by rfl, ?_⟩) hHeld ?_
          rotate_left
          · intro wS hSw
            go_simp
            all_goals with_reducible rfl
          simp only [Act.put, List.setIfInBounds_toArray, List.set_cons_zero, List.set_cons_succ]
          refine wpAnyT_take (i := 6) (v := ?_) [9, 10] (oi := { dst := some 15, op := Go.Op.extract (Go.Operand.tmp 9) 0, type := 25, pos := "law.go:149", after := #[{ on := 5, ground := Go.Ground.data }], guard := none }) rfl (by kernel_rfl) (by kernel_rfl) (by kernel_rfl) (by kernel_rfl) (fun _ _ _ h => h) (Or.inl ⟨by rfl, ?_⟩) hHeld ?_
          rotate_left
          · intro wS hSw
            go_simp
            all_goals with_reducible rfl
          simp only [Act.put, List.setIfInBounds_toArray, List.set_cons_zero, List.set_cons_succ]
          refine wpAnyT_takeY (i := 7) (v := ?_) (oi := { dst := some 16, op := Go.Op.extract (Go.Operand.tmp 9) 1, type := 26, pos := "law.go:149", after := #[{ on := 5, ground := Go.Ground.data }, { on := 9, ground := Go.Ground.gcOnly Go.Departure.lateStores }], guard := none }) rfl (by kernel_rfl) (by kernel_rfl) (by kernel_rfl) (by rfl) (fun _ _ _ h => h) (Or.inl ⟨by rfl, ?_⟩) hHeld ?_
          rotate_left
          · intro wS
            go_simp
            all_goals with_reducible rfl
          simp only [Act.put, List.setIfInBounds_toArray, List.set_cons_zero, List.set_cons_succ]
          refine wpAnyT_ready (rs := [8]) (by kernel_rfl) (by simp) ?_
          refine AllReadyT.cons (i := 8) (o := { dst := some 5, op := Go.Op.alloc 25, type := 0, pos := "law.go:149", after := #[], guard := none }) rfl (fun K hK => ?_) ?_
          · go_simp
            have HB4 := hidI hHeld
            have R40 := hidI R4.out.low
            have BX : Hid (BoxIs (w4q.alloc (.cells #[.int .i64 0, .int .i64 0, .string ⟨#[]⟩, .slice none 0 0, .slice none 0 0] 25)) w4q.heap.size (.int .i64 0) (.int .i64 0) (.string ⟨#[]⟩) (.slice none 0 0) (.slice none 0 0)) := hidI (heap_alloc_new _ _)
            have GG : Hid (w.heap.size + 2 ≤ w4q.heap.size) := hidI hHeld.2.2.2.2.2
            replace R1 := hidI (((R1.out.low).bel (bel_alloc _ (.cells #[.int .i64 0, .int .i64 0, .string ⟨#[]⟩, .slice none 0 0, .slice none 0 0] 25))).weak (ok' := fun k => k ≠ w4q.heap.size) fun k hk => by have := hk.2; omega)
            replace R3 := hidI (((R3.out.low).bel (bel_alloc _ (.cells #[.int .i64 0, .int .i64 0, .string ⟨#[]⟩, .slice none 0 0, .slice none 0 0] 25))).weak (ok' := fun k => k ≠ w4q.heap.size) fun k hk => by have := hk.2; omega)
            replace R4 := hidI (((R4.out.low).bel (bel_alloc _ (.cells #[.int .i64 0, .int .i64 0, .string ⟨#[]⟩, .slice none 0 0, .slice none 0 0] 25))).weak (ok' := fun k => k ≠ w4q.heap.size) fun k hk => by have := hk.2; omega)
            refine hK.out _ _ (hHeld.bel (bel_alloc _ (.cells #[.int .i64 0, .int .i64 0, .string ⟨#[]⟩, .slice none 0 0, .slice none 0 0] 25))) (fun hHeld2 => ?_)
            clear hK K
            replace hHeld := hHeld2
            clear hHeld2
            try simp only [Act.put, List.setIfInBounds_toArray, List.set_cons_zero, List.set_cons_succ]
            obtain ⟨o0, o1, o2, o3, o4, f0, f1, f2, f3, f4⟩ := BX.out.c
            have HE := hidI hHeld
            clear hHeld
            refine wpAnyT_last (i := 9) (o := { dst := none, op := Go.Op.store 25 (Go.Operand.tmp 5) (Go.Operand.tmp 15), type := 0, pos := "law.go:149", after := #[{ on := 8, ground := Go.Ground.data }, { on := 6, ground := Go.Ground.data }, { on := 4, ground := Go.Ground.chain }, { on := 0, ground := Go.Ground.phase }, { on := 1, ground := Go.Ground.phase }, { on := 2, ground := Go.Ground.phase }, { on := 3, ground := Go.Ground.phase }, { on := 4, ground := Go.Ground.phase }, { on := 5, ground := Go.Ground.phase }, { on := 6, ground := Go.Ground.phase }, { on := 7, ground := Go.Ground.textOnly Go.Departure.lateStores }, { on := 8, ground := Go.Ground.phase }], guard := none }) (by kernel_rfl) (by rfl) rfl (fun K hK => ?_)
            go_simp
            refine hK.out _ _ ?_
            clear hK K
            try simp only [Act.put, List.setIfInBounds_toArray, List.set_cons_zero, List.set_cons_succ]
            refine wpAnyT_last (i := 10) (o := { dst := some 6, op := Go.Op.assign (Go.Operand.tmp 16), type := 26, pos := "law.go:149", after := #[{ on := 7, ground := Go.Ground.data }, { on := 9, ground := Go.Ground.chain }, { on := 0, ground := Go.Ground.phase }, { on := 1, ground := Go.Ground.phase }, { on := 2, ground := Go.Ground.phase }, { on := 3, ground := Go.Ground.phase }, { on := 4, ground := Go.Ground.phase }, { on := 5, ground := Go.Ground.phase }, { on := 6, ground := Go.Ground.phase }, { on := 7, ground := Go.Ground.phase }, { on := 8, ground := Go.Ground.phase }, { on := 9, ground := Go.Ground.phase }], guard := none }) (by kernel_rfl) (by rfl) rfl (fun K hK => ?_)
            go_simp
            refine hK.out _ _ ?_
            clear hK K
            try simp only [Act.put, List.setIfInBounds_toArray, List.set_cons_zero, List.set_cons_succ]
            refine wpAnyT_done (by kernel_rfl) ?_ _
            go_wp2_with fail
            go_meet
            case rel => exact ⟨_, _, _, _, _, rfl, rfl, HB4.out.bel (bel_alloc _ _), heap_alloc_new _ _, (R40.out.bel (bel_alloc _ _)).weak (fun k hk => by have := hk.2; omega), HB4.out.2.2.2.2.2⟩
          exact AllReadyT.nil
        refine AllReadyT.cons (i := 8) (o := { dst := some 5, op := Go.Op.alloc 25, type := 0, pos := "law.go:149", after := #[], guard := none }) rfl (fun K hK => ?_) ?_
        · go_simp
          have BX : Hid (BoxIs (w3q.alloc (.cells #[.int .i64 0, .int .i64 0, .string ⟨#[]⟩, .slice none 0 0, .slice none 0 0] 25)) w3q.heap.size (.int .i64 0) (.int .i64 0) (.string ⟨#[]⟩) (.slice none 0 0) (.slice none 0 0)) := hidI (heap_alloc_new _ _)
          have GG : Hid (w.heap.size + 2 ≤ w3q.heap.size) := hidI hHeld.2.2.2.2.2
          replace R1 := hidI (((R1.out.low).bel (bel_alloc _ (.cells #[.int .i64 0, .int .i64 0, .string ⟨#[]⟩, .slice none 0 0, .slice none 0 0] 25))).weak (ok' := fun k => k ≠ w3q.heap.size) fun k hk => by have := hk.2; omega)
          replace R3 := hidI (((R3.out.low).bel (bel_alloc _ (.cells #[.int .i64 0, .int .i64 0, .string ⟨#[]⟩, .slice none 0 0, .slice none 0 0] 25))).weak (ok' := fun k => k ≠ w3q.heap.size) fun k hk => by have := hk.2; omega)
          refine hK.out _ _ (hHeld.bel (bel_alloc _ (.cells #[.int .i64 0, .int .i64 0, .string ⟨#[]⟩, .slice none 0 0, .slice none 0 0] 25))) (fun hHeld2 => ?_)
          clear hK K
          replace hHeld := hHeld2
          clear hHeld2
          try simp only [Act.put, List.setIfInBounds_toArray, List.set_cons_zero, List.set_cons_succ]
          refine wpAnyT_ready (rs := [4]) (by kernel_rfl) (by simp) ?_
          refine AllReadyT.cons (i := 4) (o := { dst := some 14, op := Go.Op.call { callee := Go.Callee.value (Go.Operand.func 4), args := #[Go.Operand.tmp 11, Go.Operand.tmp 13], argTypes := #[25, 25] }, type := 27, pos := "law.go:149", after := #[{ on := 1, ground := Go.Ground.data }, { on := 3, ground := Go.Ground.data }, { on := 3, ground := Go.Ground.chain }], guard := none }) rfl (fun K hK => ?_) ?_
          · go_simp
            refine (merge_is _ (fun k => k ≠ w3q.heap.size) t x _ _ R1.out R3.out).mono ?_
            rintro e w4q ⟨r4, rfl, hb, hr⟩
            rw [HM.out] at hr
            rw [HI.out]
            obtain ⟨a3, b3, c3, d3, rfl⟩ := hr.form
            have R4 := hidI (hr.weak (ok' := (fun k => k ≠ w3q.heap.size)) (fun k hk => by have := BX.out.lt; rcases hk with h | h <;> omega))
            replace R1 := hidI (R1.out.bel hb)
            replace R3 := hidI (R3.out.bel hb)
            replace BX := hidI (box_bel hb BX.out)
            refine hK.out _ _ (hHeld.bel hb) (fun hHeld2 => ?_)
            clear hr hb
            clear hK K
            replace hHeld := hHeld2
            clear hHeld2
            try simp only [Act.put, List.setIfInBounds_toArray, List.set_cons_zero, List.set_cons_succ]
            refine wpAnyT_take (i := 5) (v := ?_) [6, 7, 9, 10] (oi := { dst := some 9, op := Go.Op.move (Go.Operand.tmp 14), type := 27, pos := "law.go:149", after := #[{ on := 4, ground := Go.Ground.data }], guard := none }) rfl (by kernel_rfl) (by kernel_rfl) (by kernel_rfl) (by kernel_rfl) (fun _ _ _ h => h) (Or.inl ⟨by rfl, ?_⟩) hHeld ?_
            rotate_left
            · intro wS hSw
              go_simp
              all_goals with_reducible rfl
            simp only [Act.put, List.setIfInBounds_toArray, List.set_cons_zero, List.set_cons_succ]
            refine wpAnyT_take (i := 6) (v := ?_) [9, 10] (oi := { dst := some 15, op := Go.Op.extract (Go.Operand.tmp 9) 0, type := 25, pos := "law.go:149", after := #[{ on := 5, ground := Go.Ground.data }], guard := none }) rfl (by kernel_rfl) (by kernel_rfl) (by kernel_rfl) (by kernel_rfl) (fun _ _ _ h => h) (Or.inl ⟨by rfl, ?_⟩) hHeld ?_
            rotate_left
            · intro wS hSw
              go_simp
              all_goals with_reducible rfl
            simp only [Act.put, List.setIfInBounds_toArray, List.set_cons_zero, List.set_cons_succ]
            refine wpAnyT_takeY (i := 7) (v := ?_) (oi := { dst := some 16, op := Go.Op.extract (Go.Operand.tmp 9) 1, type := 26, pos := "law.go:149", after := #[{ on := 5, ground := Go.Ground.data }, { on := 9, ground := Go.Ground.gcOnly Go.Departure.lateStores }], guard := none }) rfl (by kernel_rfl) (by kernel_rfl) (by kernel_rfl) (by rfl) (fun _ _ _ h => h) (Or.inl ⟨by rfl, ?_⟩) hHeld ?_
            rotate_left
            · intro wS
              go_simp
              all_goals with_reducible rfl
            simp only [Act.put, List.setIfInBounds_toArray, List.set_cons_zero, List.set_cons_succ]
            obtain ⟨o0, o1, o2, o3, o4, f0, f1, f2, f3, f4⟩ := BX.out.c
            have HE := hidI hHeld
            clear hHeld
            refine wpAnyT_last (i := 9) (o := { dst := none, op := Go.Op.store 25 (Go.Operand.tmp 5) (Go.Operand.tmp 15), type := 0, pos := "law.go:149", after := #[{ on := 8, ground := Go.Ground.data }, { on := 6, ground := Go.Ground.data }, { on := 4, ground := Go.Ground.chain }, { on := 0, ground := Go.Ground.phase }, { on := 1, ground := Go.Ground.phase }, { on := 2, ground := Go.Ground.phase }, { on := 3, ground := Go.Ground.phase }, { on := 4, ground := Go.Ground.phase }, { on := 5, ground := Go.Ground.phase }, { on := 6, ground := Go.Ground.phase }, { on := 7, ground := Go.Ground.textOnly Go.Departure.lateStores }, { on := 8, ground := Go.Ground.phase }], guard := none }) (by kernel_rfl) (by rfl) rfl (fun K hK => ?_)
            go_simp
            refine hK.out _ _ ?_
            clear hK K
            try simp only [Act.put, List.setIfInBounds_toArray, List.set_cons_zero, List.set_cons_succ]
            refine wpAnyT_last (i := 10) (o := { dst := some 6, op := Go.Op.assign (Go.Operand.tmp 16), type := 26, pos := "law.go:149", after := #[{ on := 7, ground := Go.Ground.data }, { on := 9, ground := Go.Ground.chain }, { on := 0, ground := Go.Ground.phase }, { on := 1, ground := Go.Ground.phase }, { on := 2, ground := Go.Ground.phase }, { on := 3, ground := Go.Ground.phase }, { on := 4, ground := Go.Ground.phase }, { on := 5, ground := Go.Ground.phase }, { on := 6, ground := Go.Ground.phase }, { on := 7, ground := Go.Ground.phase }, { on := 8, ground := Go.Ground.phase }, { on := 9, ground := Go.Ground.phase }], guard := none }) (by kernel_rfl) (by rfl) rfl (fun K hK => ?_)
            go_simp
            refine hK.out _ _ ?_
            clear hK K
            try simp only [Act.put, List.setIfInBounds_toArray, List.set_cons_zero, List.set_cons_succ]
            refine wpAnyT_done (by kernel_rfl) ?_ _
            go_wp2_with fail
            go_meet
            case rel => exact ⟨_, _, _, _, _, rfl, rfl, HE.out.set (by exact GG.out) _ _ _ _ _, OB.made BX.out R4.out (by exact GG.out)⟩
          exact AllReadyT.nil
        exact AllReadyT.nil
      refine AllReadyT.cons (i := 8) (o := { dst := some 5, op := Go.Op.alloc 25, type := 0, pos := "law.go:149", after := #[], guard := none }) rfl (fun K hK => ?_) ?_
      · go_simp
        have BX : Hid (BoxIs (w1q.alloc (.cells #[.int .i64 0, .int .i64 0, .string ⟨#[]⟩, .slice none 0 0, .slice none 0 0] 25)) w1q.heap.size (.int .i64 0) (.int .i64 0) (.string ⟨#[]⟩) (.slice none 0 0) (.slice none 0 0)) := hidI (heap_alloc_new _ _)
        have GG : Hid (w.heap.size + 2 ≤ w1q.heap.size) := hidI hHeld.2.2.2.2.2
        replace R1 := hidI (((R1.out.low).bel (bel_alloc _ (.cells #[.int .i64 0, .int .i64 0, .string ⟨#[]⟩, .slice none 0 0, .slice none 0 0] 25))).weak (ok' := fun k => k ≠ w1q.heap.size) fun k hk => by have := hk.2; omega)
        refine hK.out _ _ (hHeld.bel (bel_alloc _ (.cells #[.int .i64 0, .int .i64 0, .string ⟨#[]⟩, .slice none 0 0, .slice none 0 0] 25))) (fun hHeld2 => ?_)
        clear hK K
        replace hHeld := hHeld2
        clear hHeld2
        try simp only [Act.put, List.setIfInBounds_toArray, List.set_cons_zero, List.set_cons_succ]
        refine wpAnyT_ready (rs := [3]) (by kernel_rfl) (by simp) ?_
        refine AllReadyT.cons (i := 3) (o := { dst := some 13, op := Go.Op.call { callee := Go.Callee.value (Go.Operand.func 5), args := #[Go.Operand.tmp 12], argTypes := #[25] }, type := 25, pos := "law.go:149", after := #[{ on := 2, ground := Go.Ground.data }, { on := 1, ground := Go.Ground.chain }], guard := none }) rfl (fun K hK => ?_) ?_
        · go_simp
          refine (rcopy_is _ (fun k => k < w.heap.size) x _ (by exact hHeld.2.2.2.1) (by have := NX.out; omega)).mono ?_
          rintro e w3q ⟨r3, rfl, hb, hr⟩
          have R3 := hidI (hr.weak (ok' := (fun k => k ≠ w1q.heap.size)) (fun k hk => by have := BX.out.lt; omega))
          replace R1 := hidI (R1.out.bel hb)
          replace BX := hidI (box_bel hb BX.out)
          refine hK.out _ _ (hHeld.bel hb) (fun hHeld2 => ?_)
          clear hr hb
          clear hK K
          replace hHeld := hHeld2
          clear hHeld2
          try simp only [Act.put, List.setIfInBounds_toArray, List.set_cons_zero, List.set_cons_succ]
          refine wpAnyT_ready (rs := [4]) (by kernel_rfl) (by simp) ?_
          refine AllReadyT.cons (i := 4) (o := { dst := some 14, op := Go.Op.call { callee := Go.Callee.value (Go.Operand.func 4), args := #[Go.Operand.tmp 11, Go.Operand.tmp 13], argTypes := #[25, 25] }, type := 27, pos := "law.go:149", after := #[{ on := 1, ground := Go.Ground.data }, { on := 3, ground := Go.Ground.data }, { on := 3, ground := Go.Ground.chain }], guard := none }) rfl (fun K hK => ?_) ?_
          · go_simp
            refine (merge_is _ (fun k => k ≠ w1q.heap.size) t x _ _ R1.out R3.out).mono ?_
            rintro e w4q ⟨r4, rfl, hb, hr⟩
            rw [HM.out] at hr
            rw [HI.out]
            obtain ⟨a3, b3, c3, d3, rfl⟩ := hr.form
            have R4 := hidI (hr.weak (ok' := (fun k => k ≠ w1q.heap.size)) (fun k hk => by have := BX.out.lt; rcases hk with h | h <;> omega))
            replace R1 := hidI (R1.out.bel hb)
            replace R3 := hidI (R3.out.bel hb)
            replace BX := hidI (box_bel hb BX.out)
            refine hK.out _ _ (hHeld.bel hb) (fun hHeld2 => ?_)
            clear hr hb
            clear hK K
            replace hHeld := hHeld2
            clear hHeld2
            try simp only [Act.put, List.setIfInBounds_toArray, List.set_cons_zero, List.set_cons_succ]
            refine wpAnyT_take (i := 5) (v := ?_) [6, 7, 9, 10] (oi := { dst := some 9, op := Go.Op.move (Go.Operand.tmp 14), type := 27, pos := "law.go:149", after := #[{ on := 4, ground := Go.Ground.data }], guard := none }) rfl (by kernel_rfl) (by kernel_rfl) (by kernel_rfl) (by kernel_rfl) (fun _ _ _ h => h) (Or.inl ⟨by rfl, ?_⟩) hHeld ?_
            rotate_left
            · intro wS hSw
              go_simp
              all_goals with_reducible rfl
            simp only [Act.put, List.setIfInBounds_toArray, List.set_cons_zero, List.set_cons_succ]
            refine wpAnyT_take (i := 6) (v := ?_) [9, 10] (oi := { dst := some 15, op := Go.Op.extract (Go.Operand.tmp 9) 0, type := 25, pos := "law.go:149", after := #[{ on := 5, ground := Go.Ground.data }], guard := none }) rfl (by kernel_rfl) (by kernel_rfl) (by kernel_rfl) (by kernel_rfl) (fun _ _ _ h => h) (Or.inl ⟨by rfl, ?_⟩) hHeld ?_
            rotate_left
            · intro wS hSw
              go_simp
              all_goals with_reducible rfl
            simp only [Act.put, List.setIfInBounds_toArray, List.set_cons_zero, List.set_cons_succ]
            refine wpAnyT_takeY (i := 7) (v := ?_) (oi := { dst := some 16, op := Go.Op.extract (Go.Operand.tmp 9) 1, type := 26, pos := "law.go:149", after := #[{ on := 5, ground := Go.Ground.data }, { on := 9, ground := Go.Ground.gcOnly Go.Departure.lateStores }], guard := none }) rfl (by kernel_rfl) (by kernel_rfl) (by kernel_rfl) (by rfl) (fun _ _ _ h => h) (Or.inl ⟨by rfl, ?_⟩) hHeld ?_
            rotate_left
            · intro wS
              go_simp
              all_goals with_reducible rfl
            simp only [Act.put, List.setIfInBounds_toArray, List.set_cons_zero, List.set_cons_succ]
            obtain ⟨o0, o1, o2, o3, o4, f0, f1, f2, f3, f4⟩ := BX.out.c
            have HE := hidI hHeld
            clear hHeld
            refine wpAnyT_last (i := 9) (o := { dst := none, op := Go.Op.store 25 (Go.Operand.tmp 5) (Go.Operand.tmp 15), type := 0, pos := "law.go:149", after := #[{ on := 8, ground := Go.Ground.data }, { on := 6, ground := Go.Ground.data }, { on := 4, ground := Go.Ground.chain }, { on := 0, ground := Go.Ground.phase }, { on := 1, ground := Go.Ground.phase }, { on := 2, ground := Go.Ground.phase }, { on := 3, ground := Go.Ground.phase }, { on := 4, ground := Go.Ground.phase }, { on := 5, ground := Go.Ground.phase }, { on := 6, ground := Go.Ground.phase }, { on := 7, ground := Go.Ground.textOnly Go.Departure.lateStores }, { on := 8, ground := Go.Ground.phase }], guard := none }) (by kernel_rfl) (by rfl) rfl (fun K hK => ?_)
            go_simp
            refine hK.out _ _ ?_
            clear hK K
            try simp only [Act.put, List.setIfInBounds_toArray, List.set_cons_zero, List.set_cons_succ]
            refine wpAnyT_last (i := 10) (o := { dst := some 6, op := Go.Op.assign (Go.Operand.tmp 16), type := 26, pos := "law.go:149", after := #[{ on := 7, ground := Go.Ground.data }, { on := 9, ground := Go.Ground.chain }, { on := 0, ground := Go.Ground.phase }, { on := 1, ground := Go.Ground.phase }, { on := 2, ground := Go.Ground.phase }, { on := 3, ground := Go.Ground.phase }, { on := 4, ground := Go.Ground.phase }, { on := 5, ground := Go.Ground.phase }, { on := 6, ground := Go.Ground.phase }, { on := 7, ground := Go.Ground.phase }, { on := 8, ground := Go.Ground.phase }, { on := 9, ground := Go.Ground.phase }], guard := none }) (by kernel_rfl) (by rfl) rfl (fun K hK => ?_)
            go_simp
            refine hK.out _ _ ?_
            clear hK K
            try simp only [Act.put, List.setIfInBounds_toArray, List.set_cons_zero, List.set_cons_succ]
            refine wpAnyT_done (by kernel_rfl) ?_ _
            go_wp2_with fail
            go_meet
            case rel => exact ⟨_, _, _, _, _, rfl, rfl, HE.out.set (by exact GG.out) _ _ _ _ _, OB.made BX.out R4.out (by exact GG.out)⟩
          exact AllReadyT.nil
        exact AllReadyT.nil
      exact AllReadyT.nil
    refine AllReadyT.cons (i := 8) (o := { dst := some 5, op := Go.Op.alloc 25, type := 0, pos := "law.go:149", after := #[], guard := none }) rfl (fun K hK => ?_) ?_
    · go_simp
      have BX : Hid (BoxIs (((w.alloc (.cells #[.int .i64 t.kind, .int .i64 t.n, .string ⟨t.s.toArray⟩, .slice a1 t.keys.length c1, .slice b1 t.l.length d1] 25)).alloc (.cells #[.int .i64 x.kind, .int .i64 x.n, .string ⟨x.s.toArray⟩, .slice a2 x.keys.length c2, .slice b2 x.l.length d2] 25)).alloc (.cells #[.int .i64 0, .int .i64 0, .string ⟨#[]⟩, .slice none 0 0, .slice none 0 0] 25)).drew (w.heap.size + 2) (.int .i64 0) (.int .i64 0) (.string ⟨#[]⟩) (.slice none 0 0) (.slice none 0 0)) := hidI (h3c w _ _ _)
      have GG : Hid (w.heap.size + 2 ≤ w.heap.size + 2) := hidI (Nat.le_refl _)
      refine hK.out _ _ ((K0.out.bel (bel_alloc _ (.cells #[.int .i64 0, .int .i64 0, .string ⟨#[]⟩, .slice none 0 0, .slice none 0 0] 25))).bel (bel_drewN _ 1)) (fun hHeld2 => ?_)
      clear hK K
      replace hHeld := hHeld2
      clear hHeld2
      try simp only [Act.put, List.setIfInBounds_toArray, List.set_cons_zero, List.set_cons_succ]
      refine wpAnyT_ready (rs := [1]) (by kernel_rfl) (by simp) ?_
      refine AllReadyT.cons (i := 1) (o := { dst := some 11, op := Go.Op.call { callee := Go.Callee.value (Go.Operand.func 5), args := #[Go.Operand.tmp 10], argTypes := #[25] }, type := 25, pos := "law.go:149", after := #[{ on := 0, ground := Go.Ground.data }], guard := none }) rfl (fun K hK => ?_) ?_
      · go_simp
        refine (rcopy_is _ (fun k => k < w.heap.size) t _ (by exact hHeld.2.2.1) (by have := NT.out; omega)).mono ?_
        rintro e w1q ⟨r1, rfl, hb, hr⟩
        have R1 := hidI (hr.weak (ok' := (fun k => k ≠ (w.heap.size + 2))) (fun k hk => by have := BX.out.lt; omega))
        replace BX := hidI (box_bel hb BX.out)
        refine hK.out _ _ (hHeld.bel hb) (fun hHeld2 => ?_)
        clear hr hb
        clear hK K
        replace hHeld := hHeld2
        clear hHeld2
        try simp only [Act.put, List.setIfInBounds_toArray, List.set_cons_zero, List.set_cons_succ]
        refine wpAnyT_ready (rs := [3]) (by kernel_rfl) (by simp) ?_
        refine AllReadyT.cons (i := 3) (o := { dst := some 13, op := Go.Op.call { callee := Go.Callee.value (Go.Operand.func 5), args := #[Go.Operand.tmp 12], argTypes := #[25] }, type := 25, pos := "law.go:149", after := #[{ on := 2, ground := Go.Ground.data }, { on := 1, ground := Go.Ground.chain }], guard := none }) rfl (fun K hK => ?_) ?_
        · go_simp
          refine (rcopy_is _ (fun k => k < w.heap.size) x _ (by exact hHeld.2.2.2.1) (by have := NX.out; omega)).mono ?_
          rintro e w3q ⟨r3, rfl, hb, hr⟩
          have R3 := hidI (hr.weak (ok' := (fun k => k ≠ (w.heap.size + 2))) (fun k hk => by have := BX.out.lt; omega))
          replace R1 := hidI (R1.out.bel hb)
          replace BX := hidI (box_bel hb BX.out)
          refine hK.out _ _ (hHeld.bel hb) (fun hHeld2 => ?_)
          clear hr hb
          clear hK K
          replace hHeld := hHeld2
          clear hHeld2
          try simp only [Act.put, List.setIfInBounds_toArray, List.set_cons_zero, List.set_cons_succ]
          refine wpAnyT_ready (rs := [4]) (by kernel_rfl) (by simp) ?_
          refine AllReadyT.cons (i := 4) (o := { dst := some 14, op := Go.Op.call { callee := Go.Callee.value (Go.Operand.func 4), args := #[Go.Operand.tmp 11, Go.Operand.tmp 13], argTypes := #[25, 25] }, type := 27, pos := "law.go:149", after := #[{ on := 1, ground := Go.Ground.data }, { on := 3, ground := Go.Ground.data }, { on := 3, ground := Go.Ground.chain }], guard := none }) rfl (fun K hK => ?_) ?_
          · go_simp
            refine (merge_is _ (fun k => k ≠ (w.heap.size + 2)) t x _ _ R1.out R3.out).mono ?_
            rintro e w4q ⟨r4, rfl, hb, hr⟩
            rw [HM.out] at hr
            rw [HI.out]
            obtain ⟨a3, b3, c3, d3, rfl⟩ := hr.form
            have R4 := hidI (hr.weak (ok' := (fun k => k ≠ (w.heap.size + 2))) (fun k hk => by have := BX.out.lt; rcases hk with h | h <;> omega))
            replace R1 := hidI (R1.out.bel hb)
            replace R3 := hidI (R3.out.bel hb)
            replace BX := hidI (box_bel hb BX.out)
            refine hK.out _ _ (hHeld.bel hb) (fun hHeld2 => ?_)
            clear hr hb
            clear hK K
            replace hHeld := hHeld2
            clear hHeld2
            try simp only [Act.put, List.setIfInBounds_toArray, List.set_cons_zero, List.set_cons_succ]
            refine wpAnyT_take (i := 5) (v := ?_) [6, 7, 9, 10] (oi := { dst := some 9, op := Go.Op.move (Go.Operand.tmp 14), type := 27, pos := "law.go:149", after := #[{ on := 4, ground := Go.Ground.data }], guard := none }) rfl (by kernel_rfl) (by kernel_rfl) (by kernel_rfl) (by kernel_rfl) (fun _ _ _ h => h) (Or.inl ⟨by rfl, ?_⟩) hHeld ?_
            rotate_left
            · intro wS hSw
              go_simp
              all_goals with_reducible rfl
            simp only [Act.put, List.setIfInBounds_toArray, List.set_cons_zero, List.set_cons_succ]
            refine wpAnyT_take (i := 6) (v := ?_) [9, 10] (oi := { dst := some 15, op := Go.Op.extract (Go.Operand.tmp 9) 0, type := 25, pos := "law.go:149", after := #[{ on := 5, ground := Go.Ground.data }], guard := none }) rfl (by kernel_rfl) (by kernel_rfl) (by kernel_rfl) (by kernel_rfl) (fun _ _ _ h => h) (Or.inl ⟨by rfl, ?_⟩) hHeld ?_
            rotate_left
            · intro wS hSw
              go_simp
              all_goals with_reducible rfl
            simp only [Act.put, List.setIfInBounds_toArray, List.set_cons_zero, List.set_cons_succ]
            refine wpAnyT_takeY (i := 7) (v := ?_) (oi := { dst := some 16, op := Go.Op.extract (Go.Operand.tmp 9) 1, type := 26, pos := "law.go:149", after := #[{ on := 5, ground := Go.Ground.data }, { on := 9, ground := Go.Ground.gcOnly Go.Departure.lateStores }], guard := none }) rfl (by kernel_rfl) (by kernel_rfl) (by kernel_rfl) (by rfl) (fun _ _ _ h => h) (Or.inl ⟨by rfl, ?_⟩) hHeld ?_
            rotate_left
            · intro wS
              go_simp
              all_goals with_reducible rfl
            simp only [Act.put, List.setIfInBounds_toArray, List.set_cons_zero, List.set_cons_succ]
            obtain ⟨o0, o1, o2, o3, o4, f0, f1, f2, f3, f4⟩ := BX.out.c
            have HE := hidI hHeld
            clear hHeld
            refine wpAnyT_last (i := 9) (o := { dst := none, op := Go.Op.store 25 (Go.Operand.tmp 5) (Go.Operand.tmp 15), type := 0, pos := "law.go:149", after := #[{ on := 8, ground := Go.Ground.data }, { on := 6, ground := Go.Ground.data }, { on := 4, ground := Go.Ground.chain }, { on := 0, ground := Go.Ground.phase }, { on := 1, ground := Go.Ground.phase }, { on := 2, ground := Go.Ground.phase }, { on := 3, ground := Go.Ground.phase }, { on := 4, ground := Go.Ground.phase }, { on := 5, ground := Go.Ground.phase }, { on := 6, ground := Go.Ground.phase }, { on := 7, ground := Go.Ground.textOnly Go.Departure.lateStores }, { on := 8, ground := Go.Ground.phase }], guard := none }) (by kernel_rfl) (by rfl) rfl (fun K hK => ?_)
            go_simp
            refine hK.out _ _ ?_
            clear hK K
            try simp only [Act.put, List.setIfInBounds_toArray, List.set_cons_zero, List.set_cons_succ]
            refine wpAnyT_last (i := 10) (o := { dst := some 6, op := Go.Op.assign (Go.Operand.tmp 16), type := 26, pos := "law.go:149", after := #[{ on := 7, ground := Go.Ground.data }, { on := 9, ground := Go.Ground.chain }, { on := 0, ground := Go.Ground.phase }, { on := 1, ground := Go.Ground.phase }, { on := 2, ground := Go.Ground.phase }, { on := 3, ground := Go.Ground.phase }, { on := 4, ground := Go.Ground.phase }, { on := 5, ground := Go.Ground.phase }, { on := 6, ground := Go.Ground.phase }, { on := 7, ground := Go.Ground.phase }, { on := 8, ground := Go.Ground.phase }, { on := 9, ground := Go.Ground.phase }], guard := none }) (by kernel_rfl) (by rfl) rfl (fun K hK => ?_)
            go_simp
            refine hK.out _ _ ?_
            clear hK K
            try simp only [Act.put, List.setIfInBounds_toArray, List.set_cons_zero, List.set_cons_succ]
            refine wpAnyT_done (by kernel_rfl) ?_ _
            go_wp2_with fail
            go_meet
            case rel => exact ⟨_, _, _, _, _, rfl, rfl, HE.out.set (by exact GG.out) _ _ _ _ _, OB.made BX.out R4.out (by exact GG.out)⟩
          exact AllReadyT.nil
        exact AllReadyT.nil
      exact AllReadyT.nil
    exact AllReadyT.nil
  case rest =>
    obtain ⟨g, a3, b3, c3, d3, rfl, rfl, hmd, hob⟩ := hcut
    have K1 := hidI (And.intro hmd hob)
    clear hmd hob s0 s1 s2 s3 s4 t0 t1 t2 t3 t4 K0 B0
    obtain ⟨s0, s1, s2, s3, s4, -⟩ := K1.out.1.1.c
    obtain ⟨t0, t1, t2, t3, t4, -⟩ := K1.out.1.2.1.c
    go_wp2_with fail
    refine (rmergeV_is _ (fun k => k < w.heap.size) t x _ _ (by exact K1.out.1.2.2.1) (by exact K1.out.1.2.2.2.1) CT.out CX.out).mono ?_
    rintro e w2 ⟨r, rfl, hb, hr⟩
    rw [HM.out] at hr
    rw [HI.out]
    obtain ⟨a4, b4, c4, d4, rfl⟩ := hr.form
    have hbb := bel_trans hb (bel_alloc w2 (.cells #[.int .i64 m.kind, .int .i64 m.n, .string ⟨m.s.toArray⟩, .slice a4 m.keys.length c4, .slice b4 m.l.length d4] 25))
    have K2 : Hid (MD w t x a1 b1 a2 b2 c1 d1 c2 d2 (w2.alloc (.cells #[.int .i64 m.kind, .int .i64 m.n, .string ⟨m.s.toArray⟩, .slice a4 m.keys.length c4, .slice b4 m.l.length d4] 25)) ∧ OB w m a3 b3 c3 d3 g (w2.alloc (.cells #[.int .i64 m.kind, .int .i64 m.n, .string ⟨m.s.toArray⟩, .slice a4 m.keys.length c4, .slice b4 m.l.length d4] 25)) ∧ BoxIs (w2.alloc (.cells #[.int .i64 m.kind, .int .i64 m.n, .string ⟨m.s.toArray⟩, .slice a4 m.keys.length c4, .slice b4 m.l.length d4] 25)) w2.heap.size (.int .i64 m.kind) (.int .i64 m.n) (.string ⟨m.s.toArray⟩) (.slice a4 m.keys.length c4) (.slice b4 m.l.length d4) ∧ In (w2.alloc (.cells #[.int .i64 m.kind, .int .i64 m.n, .string ⟨m.s.toArray⟩, .slice a4 m.keys.length c4, .slice b4 m.l.length d4] 25)) (fun _ => True) m (.agg #[.int .i64 m.kind, .int .i64 m.n, .string ⟨m.s.toArray⟩, .slice a4 m.keys.length c4, .slice b4 m.l.length d4]) ∧ g < w2.heap.size ∧ w.heap.size + 2 ≤ w2.heap.size) := hidI ⟨K1.out.1.bel hbb, K1.out.2.bel hbb, heap_alloc_new _ _, (hr.bel (bel_alloc _ _)).weak fun _ _ => trivial, (box_bel hb K1.out.2.1).lt, Nat.le_trans K1.out.1.2.2.2.2.2 hb.size⟩
    clear hr hb hbb s0 s1 s2 s3 s4 t0 t1 t2 t3 t4 K1
    go_upto_region 3 with fail
    refine wp_region_T (fun wS => MD w t x a1 b1 a2 b2 c1 d1 c2 d2 wS ∧ OB w m a3 b3 c3 d3 g wS ∧ BoxIs wS w2.heap.size (.int .i64 m.kind) (.int .i64 m.n) (.string ⟨m.s.toArray⟩) (.slice a4 m.keys.length c4) (.slice b4 m.l.length d4) ∧ In wS (fun _ => True) m (.agg #[.int .i64 m.kind, .int .i64 m.n, .string ⟨m.s.toArray⟩, .slice a4 m.keys.length c4, .slice b4 m.l.length d4])) [] (by kernel_rfl) ⟨K2.out.1.bel (bel_drewN _ 1), K2.out.2.1.bel (bel_drewN _ 1), box_bel (bel_drewN _ 1) K2.out.2.2.1, K2.out.2.2.2.1.bel (bel_drewN _ 1)⟩ (fun hHeld => ?_)
    have G2 := hidI K2.out.2.2.2.2
    clear K2
    refine wpAnyT_take (i := 0) (v := ?_) [] (oi := { dst := some 23, op := Go.Op.load 25 (Go.Operand.tmp 5), type := 25, pos := "law.go:151", after := #[], guard := none }) rfl (by kernel_rfl) (by kernel_rfl) (by kernel_rfl) (by kernel_rfl) (fun _ _ _ h => h) (Or.inl ⟨by rfl, ?_⟩) hHeld ?_
    rotate_left
    · intro wS hSw
      obtain ⟨v0, v1, v2, v3, v4, -⟩ := hSw.1.1.c
      obtain ⟨y0, y1, y2, y3, y4, -⟩ := hSw.2.1.1.c
      obtain ⟨z0, z1, z2, z3, z4, -⟩ := hSw.2.2.1.c
      go_simp
      all_goals with_reducible rfl
    simp only [Act.put, List.setIfInBounds_toArray, List.set_cons_zero, List.set_cons_succ]
    refine wpAnyT_take (i := 1) (v := ?_) [] (oi := { dst := some 24, op := Go.Op.load 25 (Go.Operand.tmp 7), type := 25, pos := "law.go:151", after := #[], guard := none }) rfl (by kernel_rfl) (by kernel_rfl) (by kernel_rfl) (by kernel_rfl) (fun _ _ _ h => h) (Or.inl ⟨by rfl, ?_⟩) hHeld ?_
    rotate_left
    · intro wS hSw
      obtain ⟨v0, v1, v2, v3, v4, -⟩ := hSw.1.1.c
      obtain ⟨y0, y1, y2, y3, y4, -⟩ := hSw.2.1.1.c
      obtain ⟨z0, z1, z2, z3, z4, -⟩ := hSw.2.2.1.c
      go_simp
      all_goals with_reducible rfl
    simp only [Act.put, List.setIfInBounds_toArray, List.set_cons_zero, List.set_cons_succ]
    refine wpAnyT_ready (rs := [2]) (by kernel_rfl) (by simp) ?_
    refine AllReadyT.cons (i := 2) (o := { dst := some 25, op := Go.Op.call { callee := Go.Callee.value (Go.Operand.func 7), args := #[Go.Operand.tmp 23, Go.Operand.tmp 24], argTypes := #[25, 25] }, type := 4, pos := "law.go:151", after := #[{ on := 0, ground := Go.Ground.data }, { on := 1, ground := Go.Ground.data }], guard := none }) rfl (fun K hK => ?_) ?_
    · go_simp
      refine (rsame_is _ (fun k => k ≠ g) (fun _ => True) m m _ _ (by exact hHeld.2.1.2.1) (by exact hHeld.2.2.2)).mono ?_
      rintro e w2q ⟨rfl, hb⟩
      refine hK.out _ _ (⟨hHeld.1.bel hb, hHeld.2.1.bel hb, box_bel hb hHeld.2.2.1, hHeld.2.2.2.bel hb⟩) (fun hHeld2 => ?_)
      clear hb
      clear hK K
      replace hHeld := hHeld2
      clear hHeld2
      try simp only [Act.put, List.setIfInBounds_toArray, List.set_cons_zero, List.set_cons_succ]
      refine wpAnyT_take (i := 3) (v := ?_) [] (oi := { dst := some 26, op := Go.Op.unOp Go.UnOp.not 4 (Go.Operand.tmp 25), type := 4, pos := "law.go:151", after := #[{ on := 2, ground := Go.Ground.data }], guard := none }) rfl (by kernel_rfl) (by kernel_rfl) (by kernel_rfl) (by kernel_rfl) (fun _ _ _ h => h) (Or.inl ⟨by rfl, ?_⟩) hHeld ?_
      rotate_left
      · intro wS hSw
        go_simp
        all_goals with_reducible rfl
      simp only [Act.put, List.setIfInBounds_toArray, List.set_cons_zero, List.set_cons_succ]
      refine wpAnyT_take (i := 4) (v := ?_) [] (oi := { dst := some 27, op := Go.Op.move (Go.Operand.tmp 26), type := 4, pos := "law.go:151", after := #[{ on := 3, ground := Go.Ground.data }, { on := 2, ground := Go.Ground.chain }], guard := none }) rfl (by kernel_rfl) (by kernel_rfl) (by kernel_rfl) (by kernel_rfl) (fun _ _ _ h => h) (Or.inl ⟨by rfl, ?_⟩) hHeld ?_
      rotate_left
      · intro wS hSw
        go_simp
        all_goals with_reducible rfl
      simp only [Act.put, List.setIfInBounds_toArray, List.set_cons_zero, List.set_cons_succ]
      refine wpAnyT_take (i := 5) (v := ?_) [] (oi := { dst := some 28, op := Go.Op.move (Go.Operand.tmp 6), type := 26, pos := "law.go:151", after := #[{ on := 4, ground := Go.Ground.guard }], guard := some (4, false) }) rfl (by kernel_rfl) (by kernel_rfl) (by kernel_rfl) (by kernel_rfl) (fun _ _ _ h => h) (Or.inl ⟨by rfl, ?_⟩) hHeld ?_
      rotate_left
      · intro wS hSw
        go_simp
        all_goals with_reducible rfl
      simp only [Act.put, List.setIfInBounds_toArray, List.set_cons_zero, List.set_cons_succ]
      refine wpAnyT_take (i := 6) (v := ?_) [] (oi := { dst := some 29, op := Go.Op.move (Go.Operand.tmp 8), type := 26, pos := "law.go:151", after := #[{ on := 4, ground := Go.Ground.guard }], guard := some (4, false) }) rfl (by kernel_rfl) (by kernel_rfl) (by kernel_rfl) (by kernel_rfl) (fun _ _ _ h => h) (Or.inl ⟨by rfl, ?_⟩) hHeld ?_
      rotate_left
      · intro wS hSw
        go_simp
        all_goals with_reducible rfl
      simp only [Act.put, List.setIfInBounds_toArray, List.set_cons_zero, List.set_cons_succ]
      refine wpAnyT_take (i := 7) (v := ?_) [] (oi := { dst := some 30, op := Go.Op.binOp Go.BinOp.neq 26 (Go.Operand.tmp 28) (Go.Operand.tmp 29) 26, type := 4, pos := "law.go:151", after := #[{ on := 5, ground := Go.Ground.data }, { on := 6, ground := Go.Ground.data }, { on := 4, ground := Go.Ground.guard }], guard := some (4, false) }) rfl (by kernel_rfl) (by kernel_rfl) (by kernel_rfl) (by kernel_rfl) (fun _ _ _ h => h) (Or.inl ⟨by rfl, ?_⟩) hHeld ?_
      rotate_left
      · intro wS hSw
        go_simp
        all_goals with_reducible rfl
      simp only [Act.put, List.setIfInBounds_toArray, List.set_cons_zero, List.set_cons_succ]
      refine wpAnyT_take (i := 8) (v := ?_) [] (oi := { dst := some 31, op := Go.Op.pick (Go.Operand.tmp 27) (Go.Operand.const (Go.Value.bool true)) (Go.Operand.tmp 30), type := 4, pos := "law.go:151", after := #[{ on := 4, ground := Go.Ground.data }, { on := 7, ground := Go.Ground.data }], guard := none }) rfl (by kernel_rfl) (by kernel_rfl) (by kernel_rfl) (by kernel_rfl) (fun _ _ _ h => h) (Or.inl ⟨by rfl, ?_⟩) hHeld ?_
      rotate_left
      · intro wS hSw
        go_simp
        all_goals with_reducible rfl
      simp only [Act.put, List.setIfInBounds_toArray, List.set_cons_zero, List.set_cons_succ]
      refine wpAnyT_take (i := 9) (v := ?_) [] (oi := { dst := some 32, op := Go.Op.move (Go.Operand.tmp 31), type := 4, pos := "law.go:151", after := #[{ on := 8, ground := Go.Ground.data }, { on := 4, ground := Go.Ground.chain }], guard := none }) rfl (by kernel_rfl) (by kernel_rfl) (by kernel_rfl) (by kernel_rfl) (fun _ _ _ h => h) (Or.inl ⟨by rfl, ?_⟩) hHeld ?_
      rotate_left
      · intro wS hSw
        go_simp
        all_goals with_reducible rfl
      simp only [Act.put, List.setIfInBounds_toArray, List.set_cons_zero, List.set_cons_succ]
      refine wpAnyT_take (i := 10) (v := ?_) [] (oi := { dst := some 33, op := Go.Op.load 25 (Go.Operand.tmp 2), type := 25, pos := "law.go:151", after := #[{ on := 9, ground := Go.Ground.guard }], guard := some (9, false) }) rfl (by kernel_rfl) (by kernel_rfl) (by kernel_rfl) (by kernel_rfl) (fun _ _ _ h => h) (Or.inl ⟨by rfl, ?_⟩) hHeld ?_
      rotate_left
      · intro wS hSw
        obtain ⟨v0, v1, v2, v3, v4, -⟩ := hSw.1.1.c
        obtain ⟨y0, y1, y2, y3, y4, -⟩ := hSw.2.1.1.c
        obtain ⟨z0, z1, z2, z3, z4, -⟩ := hSw.2.2.1.c
        go_simp
        all_goals with_reducible rfl
      simp only [Act.put, List.setIfInBounds_toArray, List.set_cons_zero, List.set_cons_succ]
      refine wpAnyT_take (i := 12) (v := ?_) [] (oi := { dst := some 35, op := Go.Op.load 25 (Go.Operand.tmp 2), type := 25, pos := "law.go:151", after := #[{ on := 9, ground := Go.Ground.guard }], guard := some (9, false) }) rfl (by kernel_rfl) (by kernel_rfl) (by kernel_rfl) (by kernel_rfl) (fun _ _ _ h => h) (Or.inl ⟨by rfl, ?_⟩) hHeld ?_
      rotate_left
      · intro wS hSw
        obtain ⟨v0, v1, v2, v3, v4, -⟩ := hSw.1.1.c
        obtain ⟨y0, y1, y2, y3, y4, -⟩ := hSw.2.1.1.c
        obtain ⟨z0, z1, z2, z3, z4, -⟩ := hSw.2.2.1.c
        go_simp
        all_goals with_reducible rfl
      simp only [Act.put, List.setIfInBounds_toArray, List.set_cons_zero, List.set_cons_succ]
      refine wpAnyT_ready (rs := [11]) (by kernel_rfl) (by simp) ?_
      refine AllReadyT.cons (i := 11) (o := { dst := some 34, op := Go.Op.call { callee := Go.Callee.value (Go.Operand.func 8), args := #[Go.Operand.tmp 33], argTypes := #[25] }, type := 4, pos := "law.go:151", after := #[{ on := 10, ground := Go.Ground.data }, { on := 9, ground := Go.Ground.chain }, { on := 9, ground := Go.Ground.guard }], guard := some (9, false) }) rfl (fun K hK => ?_) ?_
      · go_simp
        refine (clean_is _ (fun k => k < w.heap.size) t _ (by exact hHeld.1.2.2.1) (by have := CT.out; omega)).mono ?_
        rintro e w11q ⟨rfl, hb⟩
        refine hK.out _ _ (⟨hHeld.1.bel hb, hHeld.2.1.bel hb, box_bel hb hHeld.2.2.1, hHeld.2.2.2.bel hb⟩) (fun hHeld2 => ?_)
        clear hb
        clear hK K
        replace hHeld := hHeld2
        clear hHeld2
        try simp only [Act.put, List.setIfInBounds_toArray, List.set_cons_zero, List.set_cons_succ]
        refine wpAnyT_ready (rs := [13]) (by kernel_rfl) (by simp) ?_
        refine AllReadyT.cons (i := 13) (o := { dst := some 36, op := Go.Op.call { callee := Go.Callee.value (Go.Operand.func 9), args := #[Go.Operand.tmp 35], argTypes := #[25] }, type := 4, pos := "law.go:151", after := #[{ on := 12, ground := Go.Ground.data }, { on := 11, ground := Go.Ground.chain }, { on := 9, ground := Go.Ground.guard }], guard := some (9, false) }) rfl (fun K hK => ?_) ?_
        · go_simp
          refine (isClean_is _ (fun k => k < w.heap.size) t _ (by exact hHeld.1.2.2.1)).mono ?_
          rintro e w13q ⟨rfl, hb⟩
          refine hK.out _ _ (⟨hHeld.1.bel hb, hHeld.2.1.bel hb, box_bel hb hHeld.2.2.1, hHeld.2.2.2.bel hb⟩) (fun hHeld2 => ?_)
          clear hb
          clear hK K
          replace hHeld := hHeld2
          clear hHeld2
          try simp only [Act.put, List.setIfInBounds_toArray, List.set_cons_zero, List.set_cons_succ]
          refine wpAnyT_take (i := 14) (v := ?_) [] (oi := { dst := some 37, op := Go.Op.binOp Go.BinOp.neq 4 (Go.Operand.tmp 34) (Go.Operand.tmp 36) 4, type := 4, pos := "law.go:151", after := #[{ on := 11, ground := Go.Ground.data }, { on := 13, ground := Go.Ground.data }, { on := 9, ground := Go.Ground.guard }], guard := some (9, false) }) rfl (by kernel_rfl) (by kernel_rfl) (by kernel_rfl) (by kernel_rfl) (fun _ _ _ h => h) (Or.inl ⟨by rfl, ?_⟩) hHeld ?_
          rotate_left
          · intro wS hSw
            go_simp
            all_goals with_reducible rfl
          simp only [Act.put, List.setIfInBounds_toArray, List.set_cons_zero, List.set_cons_succ]
          refine wpAnyT_take (i := 15) (v := ?_) [] (oi := { dst := some 38, op := Go.Op.pick (Go.Operand.tmp 32) (Go.Operand.const (Go.Value.bool true)) (Go.Operand.tmp 37), type := 4, pos := "law.go:151", after := #[{ on := 9, ground := Go.Ground.data }, { on := 14, ground := Go.Ground.data }], guard := none }) rfl (by kernel_rfl) (by kernel_rfl) (by kernel_rfl) (by kernel_rfl) (fun _ _ _ h => h) (Or.inl ⟨by rfl, ?_⟩) hHeld ?_
          rotate_left
          · intro wS hSw
            go_simp
            all_goals with_reducible rfl
          simp only [Act.put, List.setIfInBounds_toArray, List.set_cons_zero, List.set_cons_succ]
          refine wpAnyT_done (by kernel_rfl) ?_ _
          have K3 : Hid _ := hidI hHeld
          clear hHeld
          go_upto_region 5 with fail
          refine wp_region_T (fun wS => MD w t x a1 b1 a2 b2 c1 d1 c2 d2 wS ∧ BoxIs wS g (.int .i64 m.kind) (.int .i64 m.n) (.string ⟨m.s.toArray⟩) (.slice a3 m.keys.length c3) (.slice b3 m.l.length d3) ∧ BoxIs wS w2.heap.size (.int .i64 m.kind) (.int .i64 m.n) (.string ⟨m.s.toArray⟩) (.slice a4 m.keys.length c4) (.slice b4 m.l.length d4)) [8] (by kernel_rfl) ⟨K3.out.1.bel (bel_drewN _ 1), box_bel (bel_drewN _ 1) K3.out.2.1.1, box_bel (bel_drewN _ 1) K3.out.2.2.1⟩ (fun hHeld => ?_)
          have G3 := hidI K3.out.2.1.2.2
          clear K3
          refine wpAnyT_take (i := 0) (v := ?_) [1, 3, 4, 5, 6, 7, 8, 9] (oi := { dst := some 40, op := Go.Op.load 25 (Go.Operand.tmp 2), type := 25, pos := "law.go:154", after := #[], guard := none }) rfl (by kernel_rfl) (by kernel_rfl) (by kernel_rfl) (by kernel_rfl) (fun _ _ _ h => h) (Or.inl ⟨by rfl, ?_⟩) hHeld ?_
          rotate_left
          · intro wS hSw
            obtain ⟨v0, v1, v2, v3, v4, -⟩ := hSw.1.1.c
            obtain ⟨y0, y1, y2, y3, y4, -⟩ := hSw.1.2.1.c
            go_simp
            all_goals with_reducible rfl
          simp only [Act.put, List.setIfInBounds_toArray, List.set_cons_zero, List.set_cons_succ]
          refine wpAnyT_take (i := 2) (v := ?_) [3, 4, 5, 6, 7, 8, 9] (oi := { dst := some 42, op := Go.Op.load 25 (Go.Operand.tmp 3), type := 25, pos := "law.go:154", after := #[], guard := none }) rfl (by kernel_rfl) (by kernel_rfl) (by kernel_rfl) (by kernel_rfl) (fun _ _ _ h => h) (Or.inl ⟨by rfl, ?_⟩) hHeld ?_
          rotate_left
          · intro wS hSw
            obtain ⟨v0, v1, v2, v3, v4, -⟩ := hSw.1.1.c
            obtain ⟨y0, y1, y2, y3, y4, -⟩ := hSw.1.2.1.c
            go_simp
            all_goals with_reducible rfl
          simp only [Act.put, List.setIfInBounds_toArray, List.set_cons_zero, List.set_cons_succ]
          refine wpAnyT_ready (rs := [1]) (by kernel_rfl) (by simp) ?_
          refine AllReadyT.cons (i := 1) (o := { dst := some 41, op := Go.Op.call { callee := Go.Callee.value (Go.Operand.func 5), args := #[Go.Operand.tmp 40], argTypes := #[25] }, type := 25, pos := "law.go:154", after := #[{ on := 0, ground := Go.Ground.data }], guard := none }) rfl (fun K hK => ?_) ?_
          · go_simp
            refine (rcopy_is _ (fun k => k < w.heap.size) t _ (by exact hHeld.1.2.2.1) (by have := NT.out; omega)).mono ?_
            rintro e w1q ⟨r1, rfl, hb, hr⟩
            have R1 := hidI (hr.weak (ok' := (fun k => k ≠ g ∧ k ≠ w2.heap.size)) (fun k hk => by have := hHeld.2.1.lt; have := hHeld.2.2.lt; omega))
            refine hK.out _ _ (⟨hHeld.1.bel hb, box_bel hb hHeld.2.1, box_bel hb hHeld.2.2⟩) (fun hHeld2 => ?_)
            clear hr hb
            clear hK K
            replace hHeld := hHeld2
            clear hHeld2
            try simp only [Act.put, List.setIfInBounds_toArray, List.set_cons_zero, List.set_cons_succ]
            refine wpAnyT_ready (rs := [3]) (by kernel_rfl) (by simp) ?_
            refine AllReadyT.cons (i := 3) (o := { dst := some 43, op := Go.Op.call { callee := Go.Callee.value (Go.Operand.func 5), args := #[Go.Operand.tmp 42], argTypes := #[25] }, type := 25, pos := "law.go:154", after := #[{ on := 2, ground := Go.Ground.data }, { on := 1, ground := Go.Ground.chain }], guard := none }) rfl (fun K hK => ?_) ?_
            · go_simp
              refine (rcopy_is _ (fun k => k < w.heap.size) x _ (by exact hHeld.1.2.2.2.1) (by have := NX.out; omega)).mono ?_
              rintro e w3q ⟨r3, rfl, hb, hr⟩
              have R3 := hidI (hr.weak (ok' := (fun k => k ≠ g ∧ k ≠ w2.heap.size)) (fun k hk => by have := hHeld.2.1.lt; have := hHeld.2.2.lt; omega))
              replace R1 := hidI (R1.out.bel hb)
              refine hK.out _ _ (⟨hHeld.1.bel hb, box_bel hb hHeld.2.1, box_bel hb hHeld.2.2⟩) (fun hHeld2 => ?_)
              clear hr hb
              clear hK K
              replace hHeld := hHeld2
              clear hHeld2
              try simp only [Act.put, List.setIfInBounds_toArray, List.set_cons_zero, List.set_cons_succ]
              refine wpAnyT_ready (rs := [4]) (by kernel_rfl) (by simp) ?_
              refine AllReadyT.cons (i := 4) (o := { dst := some 44, op := Go.Op.call { callee := Go.Callee.value (Go.Operand.func 10), args := #[Go.Operand.tmp 41, Go.Operand.tmp 43], argTypes := #[25, 25] }, type := 27, pos := "law.go:154", after := #[{ on := 1, ground := Go.Ground.data }, { on := 3, ground := Go.Ground.data }, { on := 3, ground := Go.Ground.chain }], guard := none }) rfl (fun K hK => ?_) ?_
              · go_simp
                refine (diff_is _ (fun k => k ≠ g ∧ k ≠ w2.heap.size) t x _ _ R1.out R3.out).mono ?_
                rintro e w4q ⟨r4, rfl, hb, hr⟩
                rw [HM2.out] at hr
                rw [HI2.out]
                obtain ⟨a5, b5, c5, d5, rfl⟩ := hr.form
                have R4 := hidI (hr.weak (ok' := (fun k => k ≠ g ∧ k ≠ w2.heap.size)) (fun k hk => by have := hHeld.2.1.lt; have := hHeld.2.2.lt; rcases hk with h | h <;> omega))
                refine hK.out _ _ (⟨hHeld.1.bel hb, box_bel hb hHeld.2.1, box_bel hb hHeld.2.2⟩) (fun hHeld2 => ?_)
                clear hr hb R1 R3
                clear hK K
                replace hHeld := hHeld2
                clear hHeld2
                try simp only [Act.put, List.setIfInBounds_toArray, List.set_cons_zero, List.set_cons_succ]
                refine wpAnyT_take (i := 5) (v := ?_) [6, 7, 8, 9] (oi := { dst := some 39, op := Go.Op.move (Go.Operand.tmp 44), type := 27, pos := "law.go:154", after := #[{ on := 4, ground := Go.Ground.data }], guard := none }) rfl (by kernel_rfl) (by kernel_rfl) (by kernel_rfl) (by kernel_rfl) (fun _ _ _ h => h) (Or.inl ⟨by rfl, ?_⟩) hHeld ?_
                rotate_left
                · intro wS hSw
                  go_simp
                  all_goals with_reducible rfl
                simp only [Act.put, List.setIfInBounds_toArray, List.set_cons_zero, List.set_cons_succ]
                refine wpAnyT_take (i := 6) (v := ?_) [8, 9] (oi := { dst := some 45, op := Go.Op.extract (Go.Operand.tmp 39) 0, type := 25, pos := "law.go:154", after := #[{ on := 5, ground := Go.Ground.data }], guard := none }) rfl (by kernel_rfl) (by kernel_rfl) (by kernel_rfl) (by kernel_rfl) (fun _ _ _ h => h) (Or.inl ⟨by rfl, ?_⟩) hHeld ?_
                rotate_left
                · intro wS hSw
                  go_simp
                  all_goals with_reducible rfl
                simp only [Act.put, List.setIfInBounds_toArray, List.set_cons_zero, List.set_cons_succ]
                refine wpAnyT_takeY (i := 7) (v := ?_) (oi := { dst := some 46, op := Go.Op.extract (Go.Operand.tmp 39) 1, type := 26, pos := "law.go:154", after := #[{ on := 5, ground := Go.Ground.data }, { on := 8, ground := Go.Ground.gcOnly Go.Departure.lateStores }], guard := none }) rfl (by kernel_rfl) (by kernel_rfl) (by kernel_rfl) (by rfl) (fun _ _ _ h => h) (Or.inl ⟨by rfl, ?_⟩) hHeld ?_
                rotate_left
                · intro wS
                  go_simp
                  all_goals with_reducible rfl
                simp only [Act.put, List.setIfInBounds_toArray, List.set_cons_zero, List.set_cons_succ]
                obtain ⟨o0, o1, o2, o3, o4, f0, f1, f2, f3, f4⟩ := hHeld.2.1.c
                have KD : Hid (MD w t x a1 b1 a2 b2 c1 d1 c2 d2 (set5 w4q g (.int .i64 m2.kind) (.int .i64 m2.n) (.string ⟨m2.s.toArray⟩) (.slice a5 m2.keys.length c5) (.slice b5 m2.l.length d5)) ∧ OB w m2 a5 b5 c5 d5 g (set5 w4q g (.int .i64 m2.kind) (.int .i64 m2.n) (.string ⟨m2.s.toArray⟩) (.slice a5 m2.keys.length c5) (.slice b5 m2.l.length d5)) ∧ BoxIs (set5 w4q g (.int .i64 m2.kind) (.int .i64 m2.n) (.string ⟨m2.s.toArray⟩) (.slice a5 m2.keys.length c5) (.slice b5 m2.l.length d5)) w2.heap.size (.int .i64 m.kind) (.int .i64 m.n) (.string ⟨m.s.toArray⟩) (.slice a4 m.keys.length c4) (.slice b4 m.l.length d4)) := hidI ⟨hHeld.1.set G3.out _ _ _ _ _, OB.made hHeld.2.1 (R4.out.weak fun k hk => hk.1) G3.out, hHeld.2.2.grown (set5_gb _ _ _ _ _ _ _) (by have := G2.out.1; simp; omega)⟩
                have RV := hidI (R4.out.grown (set5_gb w4q g (.int .i64 m2.kind) (.int .i64 m2.n) (.string ⟨m2.s.toArray⟩) (.slice a5 m2.keys.length c5) (.slice b5 m2.l.length d5)) (fun k hk => hk.1))
                clear hHeld R4
                refine wpAnyT_last (i := 8) (o := { dst := none, op := Go.Op.store 25 (Go.Operand.tmp 5) (Go.Operand.tmp 45), type := 0, pos := "law.go:154", after := #[{ on := 6, ground := Go.Ground.data }, { on := 4, ground := Go.Ground.chain }, { on := 0, ground := Go.Ground.phase }, { on := 1, ground := Go.Ground.phase }, { on := 2, ground := Go.Ground.phase }, { on := 3, ground := Go.Ground.phase }, { on := 4, ground := Go.Ground.phase }, { on := 5, ground := Go.Ground.phase }, { on := 6, ground := Go.Ground.phase }, { on := 7, ground := Go.Ground.textOnly Go.Departure.lateStores }], guard := none }) (by kernel_rfl) (by rfl) rfl (fun K hK => ?_)
                go_simp
                refine hK.out _ _ ?_
                clear hK K
                try simp only [Act.put, List.setIfInBounds_toArray, List.set_cons_zero, List.set_cons_succ]
                refine wpAnyT_last (i := 9) (o := { dst := some 6, op := Go.Op.assign (Go.Operand.tmp 46), type := 26, pos := "law.go:154", after := #[{ on := 7, ground := Go.Ground.data }, { on := 8, ground := Go.Ground.chain }, { on := 0, ground := Go.Ground.phase }, { on := 1, ground := Go.Ground.phase }, { on := 2, ground := Go.Ground.phase }, { on := 3, ground := Go.Ground.phase }, { on := 4, ground := Go.Ground.phase }, { on := 5, ground := Go.Ground.phase }, { on := 6, ground := Go.Ground.phase }, { on := 7, ground := Go.Ground.phase }, { on := 8, ground := Go.Ground.phase }], guard := none }) (by kernel_rfl) (by rfl) rfl (fun K hK => ?_)
                go_simp
                refine hK.out _ _ ?_
                clear hK K
                try simp only [Act.put, List.setIfInBounds_toArray, List.set_cons_zero, List.set_cons_succ]
                refine wpAnyT_done (by kernel_rfl) ?_ _
                obtain ⟨s0, s1, s2, s3, s4, -⟩ := KD.out.1.1.c
                obtain ⟨t0, t1, t2, t3, t4, -⟩ := KD.out.1.2.1.c
                have KE : Hid (∀ W, W = (set5 w4q g (.int .i64 m2.kind) (.int .i64 m2.n) (.string ⟨m2.s.toArray⟩) (.slice a5 m2.keys.length c5) (.slice b5 m2.l.length d5)) → MD w t x a1 b1 a2 b2 c1 d1 c2 d2 W ∧ OB w m2 a5 b5 c5 d5 g W ∧ BoxIs W w2.heap.size (.int .i64 m.kind) (.int .i64 m.n) (.string ⟨m.s.toArray⟩) (.slice a4 m.keys.length c4) (.slice b4 m.l.length d4)) := hidI (by rintro W rfl; exact KD.out)
                clear KD
                simp only [set5] at s0 s1 s2 s3 s4 t0 t1 t2 t3 t4
                go_wp2_with fail
                refine (rdiffV_is _ (fun k => k < w.heap.size) t x _ _ (by exact (KE.out _ rfl).1.2.2.1) (by exact (KE.out _ rfl).1.2.2.2.1) CT.out CX.out).mono ?_
                rintro e w6 ⟨r, rfl, hb, hr⟩
                rw [HM2.out] at hr
                rw [HI2.out]
                obtain ⟨a6, b6, c6, d6, rfl⟩ := hr.form
                have K6 : Hid (MD w t x a1 b1 a2 b2 c1 d1 c2 d2 w6 ∧ OB w m2 a5 b5 c5 d5 g w6 ∧ BoxIs w6 w2.heap.size (.int .i64 m.kind) (.int .i64 m.n) (.string ⟨m.s.toArray⟩) (.slice a4 m.keys.length c4) (.slice b4 m.l.length d4) ∧ In w6 (fun k => k ≠ w2.heap.size) m2 (.agg #[.int .i64 m2.kind, .int .i64 m2.n, .string ⟨m2.s.toArray⟩, .slice a6 m2.keys.length c6, .slice b6 m2.l.length d6])) := hidI ⟨(KE.out _ rfl).1.bel hb, (KE.out _ rfl).2.1.bel hb, box_bel hb (KE.out _ rfl).2.2, hr.weak fun k hk => by exact hk.elim (fun h => by have := G2.out.2; omega) (fun h => Nat.ne_of_gt (Nat.lt_of_lt_of_le (KE.out _ rfl).2.2.lt h))⟩
                have K7 : Hid (MD w t x a1 b1 a2 b2 c1 d1 c2 d2 (set5 w6 w2.heap.size (.int .i64 m2.kind) (.int .i64 m2.n) (.string ⟨m2.s.toArray⟩) (.slice a6 m2.keys.length c6) (.slice b6 m2.l.length d6)) ∧ BoxIs (set5 w6 w2.heap.size (.int .i64 m2.kind) (.int .i64 m2.n) (.string ⟨m2.s.toArray⟩) (.slice a6 m2.keys.length c6) (.slice b6 m2.l.length d6)) g (.int .i64 m2.kind) (.int .i64 m2.n) (.string ⟨m2.s.toArray⟩) (.slice a5 m2.keys.length c5) (.slice b5 m2.l.length d5) ∧ BoxIs (set5 w6 w2.heap.size (.int .i64 m2.kind) (.int .i64 m2.n) (.string ⟨m2.s.toArray⟩) (.slice a6 m2.keys.length c6) (.slice b6 m2.l.length d6)) w2.heap.size (.int .i64 m2.kind) (.int .i64 m2.n) (.string ⟨m2.s.toArray⟩) (.slice a6 m2.keys.length c6) (.slice b6 m2.l.length d6) ∧ In (set5 w6 w2.heap.size (.int .i64 m2.kind) (.int .i64 m2.n) (.string ⟨m2.s.toArray⟩) (.slice a6 m2.keys.length c6) (.slice b6 m2.l.length d6)) (fun _ => True) m2 (.agg #[.int .i64 m2.kind, .int .i64 m2.n, .string ⟨m2.s.toArray⟩, .slice a6 m2.keys.length c6, .slice b6 m2.l.length d6])) := hidI ⟨K6.out.1.set G2.out.2 _ _ _ _ _, K6.out.2.1.1.grown (set5_gb _ _ _ _ _ _ _) (by have := G2.out.1; simp; omega), K6.out.2.2.1.set _ _ _ _ _, (K6.out.2.2.2.grown (set5_gb _ _ _ _ _ _ _) (fun k hk => hk)).weak fun _ _ => trivial⟩
                have K8 : Hid (In (set5 w6 w2.heap.size (.int .i64 m2.kind) (.int .i64 m2.n) (.string ⟨m2.s.toArray⟩) (.slice a6 m2.keys.length c6) (.slice b6 m2.l.length d6)) (fun _ => True) m2 (.agg #[.int .i64 m2.kind, .int .i64 m2.n, .string ⟨m2.s.toArray⟩, .slice a5 m2.keys.length c5, .slice b5 m2.l.length d5])) := hidI ((In.grown (by exact RV.out.bel hb : In w6 (fun k => k ≠ g ∧ k ≠ w2.heap.size) m2 (.agg #[.int .i64 m2.kind, .int .i64 m2.n, .string ⟨m2.s.toArray⟩, .slice a5 m2.keys.length c5, .slice b5 m2.l.length d5])) (set5_gb w6 w2.heap.size (.int .i64 m2.kind) (.int .i64 m2.n) (.string ⟨m2.s.toArray⟩) (.slice a6 m2.keys.length c6) (.slice b6 m2.l.length d6)) (fun k hk => hk.2)).weak fun _ _ => trivial)
                clear hr hb s0 s1 s2 s3 s4 t0 t1 t2 t3 t4 KE RV
                obtain ⟨o0, o1, o2, o3, o4, f0, f1, f2, f3, f4⟩ := K6.out.2.2.1.c
                obtain ⟨s0, s1, s2, s3, s4, -⟩ := K7.out.2.1.c
                obtain ⟨t0, t1, t2, t3, t4, -⟩ := K7.out.2.2.1.c
                simp only [set5] at s0 s1 s2 s3 s4 t0 t1 t2 t3 t4
                go_wp2_with fail
                refine (rsame_is _ (fun _ => True) (fun _ => True) m2 m2 _ _ ?_ ?_).mono ?_
                · exact K8.out
                · exact K7.out.2.2.2
                rintro e w8 ⟨rfl, hb⟩
                have B8 := hidI (bel_trans K7.out.1.2.2.2.2.1 hb)
                clear hb s0 s1 s2 s3 s4 t0 t1 t2 t3 t4 o0 o1 o2 o3 o4 f0 f1 f2 f3 f4
                go_wp2_with fail
                refine (lmerges_at _ (by exact HG.out.grown (gb_below (r := none) B8.out) (by simp))).mono ?_
                rintro e w9 ⟨rfl, hb⟩
                have B9 := hidI (bel_trans B8.out hb)
                clear hb
                go_wp2_with fail
                go_ret
                exact ⟨rfl, B9.out⟩
              exact AllReadyT.nil
            exact AllReadyT.nil
          exact AllReadyT.nil
        exact AllReadyT.nil
      exact AllReadyT.nil
    exact AllReadyT.nil
end Go.Proofs.YtfbddgpekbhpfacGreatDoor

/- What is read of an argument that is a value, and how much there is in it. -/
set_option linter.unusedSimpArgs false
set_option linter.unusedVariables false
namespace Go.Proofs.YtfbddgpekbhpfacGreatDoor
open Go.ChangeShapes Go.WideShapes Go.ChangeAt Go.RowKit
set_option maxRecDepth 100000

theorem bulk_one {H : Type} (d : DataW H) : 1 ≤ Rows.uptoBulk d := by
  cases d with
  | lit l => cases l <;> simp [Rows.uptoBulk]
  | nil => simp [Rows.uptoBulk]
  | ptr d => simp [Rows.uptoBulk]
  | slice elems spare => simp [Rows.uptoBulk]
  | agg parts => simp [Rows.uptoBulk]
  | iface t d => simp [Rows.uptoBulk]
  | map entries => simp [Rows.uptoBulk]
  | held h => simp [Rows.uptoBulk]
theorem bulk_len {H : Type} (l : List (DataW H)) : l.length ≤ Rows.uptoBulkAll l := by
  induction l with
  | nil => simp [Rows.uptoBulkAll]
  | cons x r ih => have := bulk_one x; simp only [Rows.uptoBulkAll, List.length_cons]; omega
theorem bulk_mem {H : Type} {d : DataW H} {l : List (DataW H)} (h : d ∈ l) : Rows.uptoBulk d ≤ Rows.uptoBulkAll l := by
  induction l with
  | nil => cases h
  | cons x r ih =>
    simp only [Rows.uptoBulkAll]
    rcases List.mem_cons.1 h with rfl | e
    · omega
    · have := ih e; omega
theorem bulk_sizs {H : Type} : ∀ (l : List V) (es : List (DataW H)), l.length = es.length → (∀ (i : Nat) (x : V) (e : DataW H), l[i]? = some x → es[i]? = some e → siz x ≤ Rows.uptoBulk e) → sizs l ≤ Rows.uptoBulkAll es
  | [], es, _, _ => by simp [sizs]
  | x :: l, [], h, _ => by simp at h
  | x :: l, e :: es, h, hh => by
    have h1 := hh 0 x e rfl rfl
    have h2 := bulk_sizs l es (by simpa using h) fun i y f hy hf => hh (i + 1) y f (by simpa using hy) (by simpa using hf)
    rw [sizs_cons]
    simp only [Rows.uptoBulkAll]
    omega
theorem strs_bulk {H : Type} {enc : TypeId × Value → H} {W : World} {fuel : Nat} {v : Value} {x : DataW H × List MemPlace} (h : DataW.trod enc Tryz.prog W 0 (fun _ => true) true fuel 22 [v] = some x) {ks : List (List UInt8)} (hk : StrsAre W (fun _ => True) ks v) : ks.length ≤ Rows.uptoBulk x.1 := by
  rcases open_strings Tryz.underlying22 Tryz.underlying9 cellsString h with ⟨e, -⟩ | ⟨a, len, cap, ss, e, -, hl, hm, hss, hx, hc, hz⟩
  · simp only [List.cons.injEq, and_true] at e
    subst e
    rcases hk.2 with ⟨h1, -⟩ | ⟨b, off, c, h1, -⟩
    · rw [h1]; simp
    · simp at h1
  · simp only [List.cons.injEq, and_true] at e
    subst e
    simp only [if_true] at hss
    have hlen : ks.length = len := by
      rcases hk.2 with ⟨h1, a0, h2⟩ | ⟨b, off, c, h1, -⟩
      · simp only [Value.slice.injEq] at h2; rw [h1, h2.2.1]; rfl
      · simp only [Value.slice.injEq] at h1; exact h1.2.1.symm
    subst hx
    have h1 := bulk_len (strs (H := H) (ss.take len))
    have h2 : (strs (H := H) (ss.take len)).length = len := by simp [strs]; omega
    simp only [Rows.uptoBulk]
    omega
theorem vis_bulk {H : Type} {enc : TypeId × Value → H} {W : World} (fuel : Nat) : ∀ (cs : List Value) (x : DataW H × List MemPlace), DataW.trod enc Tryz.prog W 0 (fun _ => true) true fuel 25 cs = some x →
    ∃ t v0 v1 v2 v3 v4, cs = [v0, v1, v2, v3, v4] ∧ VIs W (fun _ => True) fuel t (.agg #[v0, v1, v2, v3, v4]) ∧ siz t ≤ Rows.uptoBulk x.1 := by
  induction fuel with
  | zero => intro cs x h; simp [DataW.trod] at h
  | succ fuel ih =>
    intro cs x h
    obtain ⟨xs, n, e, hx, hl, hlen, hf⟩ := DataW.trod_struct Tryz.underlying25 h
    obtain rfl : n = fuel := by omega
    rw [cellsValue] at hl
    match cs, hl, xs, hlen with
    | [v0, v1, v2, v3, v4], _, [y0, y1, y2, y3, y4], _ =>
      have g0 : DataW.trod enc Tryz.prog W 0 (fun _ => true) true n 3 [v0] = some y0 := by simpa [cellsInt] using hf 0 _ rfl
      have g1 : DataW.trod enc Tryz.prog W 0 (fun _ => true) true n 3 [v1] = some y1 := by simpa [cellsInt] using hf 1 _ rfl
      have g2 : DataW.trod enc Tryz.prog W 0 (fun _ => true) true n 9 [v2] = some y2 := by simpa [cellsString] using hf 2 _ rfl
      have g3 : DataW.trod enc Tryz.prog W 0 (fun _ => true) true n 22 [v3] = some y3 := by simpa [cellsStrs] using hf 3 _ rfl
      have g4 : DataW.trod enc Tryz.prog W 0 (fun _ => true) true n 23 [v4] = some y4 := by simpa [cellsVals] using hf 4 _ rfl
      obtain ⟨z0, e0, -, w0⟩ := DataW.trod_int Tryz.underlying3 g0
      obtain ⟨z1, e1, -, w1⟩ := DataW.trod_int Tryz.underlying3 g1
      obtain ⟨s, e2, -, hs⟩ := DataW.trod_string Tryz.underlying9 g2
      simp only [List.cons.injEq, and_true] at e0 e1 e2
      subst e0
      subst e1
      subst e2
      obtain ⟨ks, hks⟩ := strs_of g3
      have hkb := strs_bulk g3 hks
      have hvals : ∃ l, ValsAre W (fun _ => True) (VIs W (fun _ => True) n) l v4 ∧ sizs l ≤ Rows.uptoBulk y4.1 := by
        rcases DataW.trod_slice Tryz.underlying23 g4 with ⟨e, -⟩ | ⟨a, len, cap, elems, rest, k, ek, e, hy4, -, hl, hm, hlen, hel, hsp, -⟩
        · simp only [List.cons.injEq, and_true] at e
          exact ⟨[], ⟨by simp [maxLen], .inl ⟨rfl, none, e⟩⟩, by simp [sizs]⟩
        · simp only [List.cons.injEq, and_true] at e
          rw [cellsValue] at hel hsp
          have all : ∀ i, i < len → ∃ cs' y, W.cells? 0 (a.add (i * 5)) 5 = some cs' ∧ DataW.trod enc Tryz.prog W 0 (fun _ => true) true k 25 cs' = some y ∧ elems[i]? = some y := by
            intro i hil
            have := hel i hil
            rw [List.getElem?_eq_getElem (by omega)] at this
            obtain ⟨cs', h1, h2⟩ := Option.bind_eq_some_iff.1 this
            exact ⟨cs', _, h1, h2, List.getElem?_eq_getElem (by omega)⟩
          by_cases h0 : len = 0
          · subst h0
            have he : elems = [] := List.eq_nil_of_length_eq_zero hlen
            by_cases hc : cap = 0
            · subst hc
              exact ⟨[], ⟨by simp [maxLen], .inl ⟨rfl, some a, e⟩⟩, by simp [sizs]⟩
            · have ha : a = ⟨a.block, a.off, none⟩ := by
                obtain ⟨hrl, hrest⟩ := hsp rfl
                have := hrest 0 (by omega)
                rw [List.getElem?_eq_getElem (by omega)] at this
                obtain ⟨cs', h1, h2⟩ := Option.bind_eq_some_iff.1 this
                obtain ⟨-, h2, h3⟩ := World.cells?_some h1
                have := h3 0 (by omega)
                rw [List.getElem?_eq_getElem (by omega)] at this
                exact addr_plain (spot_none (v := cs'[0]) (by simpa [Addr.add] using this))
              exact ⟨[], ⟨by simp [maxLen], .inr ⟨a.block, a.off, cap, by rw [← ha]; exact e, by simp, hm, fun i t ht => by simp at ht⟩⟩, by simp [sizs]⟩
          · have ha : a = ⟨a.block, a.off, none⟩ := by
              obtain ⟨cs', y, h1, -⟩ := all 0 (by omega)
              obtain ⟨-, h2, h3⟩ := World.cells?_some h1
              have := h3 0 (by omega)
              rw [List.getElem?_eq_getElem (by omega)] at this
              exact addr_plain (spot_none (v := cs'[0]) (by simpa [Addr.add] using this))
            obtain ⟨T, hT⟩ := @Go.Deep.choose_lt V ⟨⟨0, 0, [], [], []⟩⟩ len (fun i t => ∃ v0 v1 v2 v3 v4 y, W.cells? 0 (a.add (i * 5)) 5 = some [v0, v1, v2, v3, v4] ∧ VIs W (fun _ => True) n t (.agg #[v0, v1, v2, v3, v4]) ∧ elems[i]? = some y ∧ siz t ≤ Rows.uptoBulk y.1) (fun i hi => by
              obtain ⟨cs', y, h1, h2, h3⟩ := all i hi
              obtain ⟨t, v0, v1, v2, v3, v4, rfl, hv, hz⟩ := ih cs' y (DataW.trod_le (by omega) h2)
              exact ⟨t, v0, v1, v2, v3, v4, y, h1, hv, h3, hz⟩)
            refine ⟨(List.range len).map T, ⟨by simp only [List.length_map, List.length_range]; omega, .inr ⟨a.block, a.off, cap, by simp only [List.length_map, List.length_range]; rw [← ha]; exact e, by simp only [List.length_map, List.length_range]; omega, hm, fun i t ht => ?_⟩⟩, ?_⟩
            · simp only [List.getElem?_map, Option.map_eq_some_iff] at ht
              obtain ⟨j, hj, rfl⟩ := ht
              obtain ⟨hj1, hj2⟩ := List.getElem?_eq_some_iff.1 hj
              simp only [List.length_range] at hj1
              simp only [List.getElem_range] at hj2
              subst hj2
              obtain ⟨v0, v1, v2, v3, v4, y, h1, hv, -⟩ := hT i hj1
              obtain ⟨-, -, h3⟩ := World.cells?_some h1
              rw [ha] at h3
              have c : ∀ q, q < 5 → W.cell? ⟨a.block, a.off + i * 5 + q, none⟩ = [v0, v1, v2, v3, v4][q]? := by
                intro q hq
                have := h3 q hq
                rw [addr_add, addr_add] at this
                exact this
              exact ⟨v0, v1, v2, v3, v4, trivial, c 0 (by omega), c 1 (by omega), c 2 (by omega), c 3 (by omega), c 4 (by omega), hv⟩
            · have hb : sizs ((List.range len).map T) ≤ Rows.uptoBulkAll (elems.map (·.1)) := by
                refine bulk_sizs _ _ (by simp [hlen]) fun i x f hx hf => ?_
                simp only [List.getElem?_map, Option.map_eq_some_iff] at hx hf
                obtain ⟨j, hj, rfl⟩ := hx
                obtain ⟨hj1, hj2⟩ := List.getElem?_eq_some_iff.1 hj
                simp only [List.length_range] at hj1
                simp only [List.getElem_range] at hj2
                subst hj2
                obtain ⟨y', hy', rfl⟩ := hf
                obtain ⟨v0, v1, v2, v3, v4, y, -, -, h3, h4⟩ := hT i hj1
                rw [hy'] at h3
                cases h3
                exact h4
              rw [hy4]
              simp only [Rows.uptoBulk]
              omega
      obtain ⟨l, hl, hlb⟩ := hvals
      refine ⟨⟨z0, z1, s.data.toList, ks, l⟩, _, _, _, _, _, rfl, ⟨v3, v4, by unfold str; simp, int_wf w0, int_wf w1, by rw [Array.length_toList]; exact hs, hks, hl⟩, ?_⟩
      rw [siz_eq, hx]
      simp only [List.map_cons, List.map_nil, Rows.uptoBulk, Rows.uptoBulkAll]
      omega
theorem arg_bulk {H : Type} {enc : TypeId × Value → H} {W : World} {base : Nat} {v : Value} {d : DataW H} {p : List MemPlace} (hk : Value.okWide Tryz.prog W .any base 25 v) (h : DataW.Trod enc Tryz.prog W 0 (fun _ => true) true 25 v d p) :
    ∃ f t, VIs W (fun _ => True) f t v ∧ siz t ≤ Rows.uptoBulk d := by
  obtain ⟨cs, rfl, -⟩ := okWide_struct Tryz.underlying25 hk
  obtain ⟨f, hf⟩ := h
  obtain ⟨t, v0, v1, v2, v3, v4, e, hv, hz⟩ := vis_bulk f _ _ hf
  have e2 : cs = #[v0, v1, v2, v3, v4] := by
    obtain ⟨l⟩ := cs
    exact congrArg Array.mk e
  subst e2
  exact ⟨f, t, hv, hz⟩
/- The bound, as the row hands it over. -/
theorem bulk_bound {H : Type} {l : List (DataW H)} (hk : Rows.uptoSmall H l = true) : Rows.uptoBulkAll l ≤ 1048576 := of_decide_eq_true hk
end Go.Proofs.YtfbddgpekbhpfacGreatDoor

set_option linter.unusedSimpArgs false
set_option linter.unusedVariables false
namespace Go.Proofs.YtfbddgpekbhpfacGreatDoor.mergeDoes
open Go.ChangeShapes Go.WideShapes Go.ChangeAt Go.RowKit
open Go.ChangeMaps (open_string shut_string)

set_option maxRecDepth 100000 in
theorem contract (H : Type) (enc : TypeId × Value → H) (W : World) (base : Nat) (args : Array Value) (ds gs : List (DataW H)) (before : List MemPlace)
    (hval : ∀ (j : Nat) t v, Tryz.f3.params[j]? = some t → args[j]? = some v → Value.okWide Tryz.prog W .any base t v)
    (hW : DataW.Whole enc Tryz.prog Tryz.f3.params.toList Rows.mergeDoesSpec.vars false W args.toList ds gs before)
    (hk : Rows.uptoSmall H (ds ++ gs) = true) (hZ : (DataW.weightsEach Tryz.prog (Tryz.f3.params.toList ++ (OpenSpec.ofChange Rows.mergeDoesSpec).bare.plain.varTypes Tryz.prog) (ds ++ gs)).all (· ≤ reachBytes) = true) (hL : laidMet Tryz.prog laidAll W) :
    Calls Tryz.prog 3 args W fun e W' => ∃ v, e = .returned v ∧ Rows.mergeDoesSpec.post enc Tryz.prog Tryz.f3 false true false false W args v W' := by
  have hW' := hW
  obtain ⟨p, q, hA0, hV, rfl, hfz, hnd⟩ := hW
  have hA : DataW.TrodAll enc Tryz.prog W 0 (fun _ => true) true Tryz.f3.params.toList args.toList ds p := hA0
  rw [Tryz.params3] at hA hval
  obtain ⟨v0, vs0, d0, ds0, p0, q0, hargs0, rfl, rfl, h0, r0⟩ := trodAll_cons hA
  obtain ⟨v1, vs1, d1, ds1, p1, q1, hargs1, rfl, rfl, h1, r1⟩ := trodAll_cons r0
  obtain ⟨rfl, rfl, rfl⟩ := trodAll_nil r1
  subst hargs1
  have hargs : args = #[v0, v1] := by
    obtain ⟨l⟩ := args
    exact congrArg Array.mk hargs0
  subst hargs
  obtain ⟨rfl, rfl⟩ := trodVars_none hV
  have k0 : Value.okWide Tryz.prog W .any base 25 v0 := hval 0 _ _ (by simp) (by simp)
  have k1 : Value.okWide Tryz.prog W .any base 25 v1 := hval 1 _ _ (by simp) (by simp)
  obtain ⟨f0, t0, hv0, hz0⟩ := arg_bulk k0 h0
  obtain ⟨f1, t1, hv1, hz1⟩ := arg_bulk k1 h1
  clear hA0
  simp only [List.append_nil] at hW'
  have hb := bulk_bound hk
  simp only [List.append_nil, Rows.uptoBulkAll] at hb
  have b0 : siz t0 ≤ 2000000 := by omega
  have b1 : siz t1 ≤ 2000000 := by omega
  have walk := mergeDoes_walk W (fun _ => True) f0 t0 v0 hv0 b0 (fun _ => True) f1 t1 v1 hv1 b1 (glob_of hL)
  refine walk.mono fun e W' ⟨he, hg⟩ => ?_
  subst he
  have ef : Rows.mergeDoesSpec.fn H ([d0, d1] ++ []) = { results := [.lit (.bool true)], args := [d0, d1] } := rfl
  refine ⟨_, rfl, _, _, _, [], (p0 ++ (p1 ++ [])), [], hW', ?_, ?_, ?_, hg.frame _, fun h => by cases h⟩
  · rw [ef]; exact trodAll_mk1 (shut_bool Tryz.underlying4 _)
  · rw [ef, Tryz.params3]; exact trodAll_cons_mk (Below.trod laidOut readableV rowedV h0 hg (trod_old h0)) (trodAll_cons_mk (Below.trod laidOut readableV rowedV h1 hg (trod_old h1)) (trodAll_mk0))
  · rw [ef]; rfl

set_option maxRecDepth 100000 in
theorem reads (os : Os) {H : Type} (enc : TypeId × Value → H) : ∃ places, DataW.whole enc Tryz.prog ((laidWorld os).forCall (fun _ _ => 0) ⟨#[], #[.agg #[.int .i64 0, .int .i64 0, .string ⟨#[]⟩, .slice none 0 0, .slice none 0 0], .agg #[.int .i64 0, .int .i64 0, .string ⟨#[]⟩, .slice none 0 0, .slice none 0 0]], []⟩).memory Tryz.f3.params.toList Rows.mergeDoesSpec.vars false #[Value.agg #[.int .i64 0, .int .i64 0, .string ⟨#[]⟩, .slice none 0 0, .slice none 0 0], Value.agg #[.int .i64 0, .int .i64 0, .string ⟨#[]⟩, .slice none 0 0, .slice none 0 0]].toList 8 = some ([.agg [.lit (.int .i64 0), .lit (.int .i64 0), .lit (.string []), .nil, .nil], .agg [.lit (.int .i64 0), .lit (.int .i64 0), .lit (.string []), .nil, .nil]], [], places) :=
  ⟨[], by kernel_rfl⟩

set_option maxRecDepth 100000 in
theorem lifted (os : Os) (started : os.Started) (H : Type) (enc : TypeId × Value → H) (F : Stop.Interp) :
    ReturnsInHanded {} Tryz.checked os 3 .any ((Rows.OpenSpec.upto Rows.mergeDoesSpec).preRow enc Tryz.prog Tryz.f3 Rows.mergeDoesUptoRow.domain false Rows.mergeDoesUptoRow.laid) (((Rows.OpenSpec.upto Rows.mergeDoesSpec).at F).post enc Tryz.prog Tryz.f3 false true false false) := by
  obtain ⟨places, hx⟩ := reads os enc
  refine returnsInHanded_of_row (C := Tryz.checked) (s := Rows.OpenSpec.upto Rows.mergeDoesSpec) own started (by kernel_rfl) Tryz.func3
    (witness_row_at (enc := enc) (C := Tryz.checked) false (laidWorld os) #[.agg #[.int .i64 0, .int .i64 0, .string ⟨#[]⟩, .slice none 0 0, .slice none 0 0], .agg #[.int .i64 0, .int .i64 0, .string ⟨#[]⟩, .slice none 0 0, .slice none 0 0]] rfl (by kernel_rfl) (by kernel_rfl) (by kernel_rfl)
      (OpenSpec.preRow_of_cond 8 hx (by kernel_rfl) (fun k hk => by cases hk; kernel_rfl) (by kernel_rfl) (laid_met os _))) ?_
  intro W base args ds gs before hval hW _ hc hZ hL _ _
  exact contract H enc W base args ds gs before hval hW (hc _ rfl) hZ hL

theorem said : Rows.MergeDoesUptoSaid :=
  OpenClaim.holds_of_cond 3 Tryz.f3 rfl rfl rfl rfl rfl rfl rfl ⟨rfl, rfl, rfl, rfl, rfl⟩ rfl rfl rfl rfl rfl (by kernel_rfl) Tryz.func3 (by kernel_rfl)
    (of_decide_eq_true (by kernel_rfl)) (by unfold Func.isWrapper; first | (rw [if_pos (by decide +kernel)]; kernel_rfl) | (rw [if_neg (by decide +kernel)]; exact ⟨rfl, rfl⟩))
    (fun os started H enc _ F => by rw [OpenClaim.pre_eq_preRow]; exact lifted os started H enc F)

theorem plain (f : FuncId) (fn : Func) (hf : Tryz.pinned.checked.prog.funcNamed "stairwell/stairwelllaw.MergeDoes" = some f) (hfn : Tryz.pinned.checked.prog.funcs[f]? = some fn) :
    true = Tryz.pinned.checked.prog.looks [] ∧ ∀ (j : Nat) t, fn.params[j]? = some t → Tryz.pinned.checked.prog.wantsStandIn t = false := by
  obtain rfl : f = 3 := Option.some.inj ((show Tryz.prog.funcNamed "stairwell/stairwelllaw.MergeDoes" = some 3 by kernel_rfl).symm.trans hf) |>.symm
  obtain rfl : fn = Tryz.f3 := (Option.some.inj (Tryz.func3.symm.trans hfn)).symm
  refine ⟨by kernel_rfl, fun j t ht => ?_⟩
  rw [Tryz.params3] at ht
  have hm := Array.mem_of_getElem? ht
  simp only [Array.mem_def, List.mem_cons, List.not_mem_nil, or_false] at hm
  rcases hm with rfl | rfl
  · exact (show Tryz.prog.wantsStandIn 25 = false by kernel_rfl)
  · exact (show Tryz.prog.wantsStandIn 25 = false by kernel_rfl)

theorem card : Rows.MergeDoesUptoCardSaid :=
  Claim7.holds_tied_plain_at .later [] _ _ _ _ said (fun _ h => by cases h) (by kernel_rfl) (fun _ h => by cases h) mergeDoesUpto_row_tie rfl ⟨rfl, rfl⟩ (by kernel_rfl) rfl plain (by kernel_rfl)
end Go.Proofs.YtfbddgpekbhpfacGreatDoor.mergeDoes
