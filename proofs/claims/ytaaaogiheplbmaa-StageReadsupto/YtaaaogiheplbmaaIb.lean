/- What readStep of package stage does. -/
import Derived.Test.YtaaaogiheplbmaaIa
import Derived.Test.YtaaaogiheplbmaaXz
set_option linter.unusedSimpArgs false
set_option linter.unusedVariables false
namespace Go.Proofs.Ytaaaogiheplbmaa
open Go.RowKit

def pauseB : List UInt8 := [112, 97, 117, 115, 101]
def readStepF (t : V) : Option Stp :=
  if t.kind = 2 then (if isW t.n = true then some ⟨t.n, 0⟩ else none)
  else match memV t pauseB with
    | some y => if y.kind = 2 ∧ isT y.n = true then some ⟨-1, y.n⟩ else none
    | none => none
/- A step in a block. -/
def TBox (w : World) (g : Nat) (x : Stp) : Prop := w.heap[g]? = some (.cells #[.int .i64 x.w, .int .i64 x.p] 32)
theorem TBox.c {w : World} {g : Nat} {x : Stp} (h : TBox w g x) : w.cell? ⟨g, 0, none⟩ = some (.int .i64 x.w) ∧ w.cell? ⟨g, 1, none⟩ = some (.int .i64 x.p) ∧ w.frozen? ⟨g, 0, none⟩ = false ∧ w.frozen? ⟨g, 1, none⟩ = false := by
  unfold TBox at h
  refine ⟨?_, ?_, ?_, ?_⟩ <;> simp [World.cell?, World.frozen?, h]
theorem TBox.bel {w w' : World} {g : Nat} {x : Stp} (h : TBox w g x) (hb : Below w.heap.size w w') : TBox w' g x := (hb.block g (Array.getElem?_eq_some_iff.1 h).1).trans h
theorem TBox.set {w : World} {g : Nat} {x : Stp} (h : TBox w g x) (y : Stp) : TBox ((w.setCell ⟨g, 0, none⟩ (.int .i64 y.w)).setCell ⟨g, 1, none⟩ (.int .i64 y.p)) g y := heap_set (heap_set h 0 _) 1 _
/- The blocks of readStep. -/
def RS (w : World) (b : Nat) (t : V) (a1 b1 : Option Addr) (c1 d1 : Nat) (wS : World) : Prop := BoxIs wS b (.int .i64 t.kind) (.int .i64 t.n) (.string ⟨t.s.toArray⟩) (.slice a1 t.keys.length c1) (.slice b1 t.l.length d1) ∧ TBox wS (w.heap.size + 1) ⟨0, 0⟩ ∧ Below w.heap.size w wS
theorem RS.bel {w wS w' : World} {b : Nat} {t : V} {a1 b1 : Option Addr} {c1 d1 : Nat} (h : RS w b t a1 b1 c1 d1 wS) (hb : Below wS.heap.size wS w') : RS w b t a1 b1 c1 d1 w' := ⟨box_bel hb h.1, h.2.1.bel hb, bel_trans h.2.2 hb⟩

attribute [local go_sem ↓] Go.wp_at_zero Go.wp_at_succ
set_option maxRecDepth 100000 in
set_option maxHeartbeats 4000000 in
theorem readStep_num (w : World) (ok : Nat → Prop) (t : V) (v : Value) (h : In w ok t v) (hk : t.kind = 2) :
    Calls Try.prog 33 #[v] w fun e w' => ∃ x : Stp, e = .returned (.tuple #[stpV x, .bool (readStepF t).isSome]) ∧ (∀ z, readStepF t = some z → x = z) ∧ Below w.heap.size w w' := by
  have H := hidI h
  obtain ⟨a1, b1, c1, d1, rfl⟩ := h.form
  have K0 : Hid (RS w w.heap.size t a1 b1 c1 d1 ((w.alloc (.cells #[.int .i64 t.kind, .int .i64 t.n, .string ⟨t.s.toArray⟩, .slice a1 t.keys.length c1, .slice b1 t.l.length d1] 25)).alloc (.cells #[.int .i64 0, .int .i64 0] 32))) := hidI ⟨h2a w _ _, h2b w _ _, bel_trans (bel_alloc _ _) (bel_alloc _ _)⟩
  clear h
  have e1 : (t.kind == 2) = true := by simp [hk]
  have FS : readStepF t = if isW t.n = true then some ⟨t.n, 0⟩ else none := by rw [readStepF, if_pos hk]
  have FIN : Hid ((readStepF t).isSome = isW t.n) := hidI (by rw [FS]; cases isW t.n <;> rfl)
  have FV : Hid (∀ z, readStepF t = some z → (⟨t.n, 0⟩ : Stp) = z) := hidI (fun z hz => by rw [FS] at hz; cases hw : isW t.n <;> simp [hw] at hz; exact hz)
  clear hk FS
  go_enter Try.func33, Try.ntmps33
  go_upto_region 2 with fail
  obtain ⟨W, hW, KW⟩ : ∃ W : World, W = ((w.alloc (.cells #[.int .i64 t.kind, .int .i64 t.n, .string ⟨t.s.toArray⟩, .slice a1 t.keys.length c1, .slice b1 t.l.length d1] 25)).alloc (.cells #[.int .i64 0, .int .i64 0] 32)) ∧ RS w w.heap.size t a1 b1 c1 d1 W := ⟨_, rfl, K0.out⟩
  rw [← hW]
  clear hW
  refine wp_region_T (fun wS => RS w w.heap.size t a1 b1 c1 d1 wS) [6] (by kernel_rfl) (KW.bel (bel_drewN W 1)) (fun hHeld => ?_)
  have KT := hidI KW
  clear KW
  refine wpAnyT_take (i := 0) (v := ?_) [1, 2, 6, 7] (oi := { dst := some 9, op := Go.Op.fieldAddr 25 (Go.Operand.tmp 1) 1, type := 0, pos := "read.go:45", after := #[], guard := none }) rfl (by kernel_rfl) (by kernel_rfl) (by kernel_rfl) (by kernel_rfl) (fun _ _ _ h => h) (Or.inl ⟨by rfl, ?_⟩) hHeld ?_
  rotate_left
  · intro wS hSw
    go_simp
    all_goals with_reducible rfl
  simp only [Act.put, List.setIfInBounds_toArray, List.set_cons_zero, List.set_cons_succ]
  refine wpAnyT_take (i := 1) (v := ?_) [2, 6, 7] (oi := { dst := some 10, op := Go.Op.load 3 (Go.Operand.tmp 9), type := 3, pos := "read.go:45", after := #[{ on := 0, ground := Go.Ground.data }], guard := none }) rfl (by kernel_rfl) (by kernel_rfl) (by kernel_rfl) (by kernel_rfl) (fun _ _ _ h => h) (Or.inl ⟨by rfl, ?_⟩) hHeld ?_
  rotate_left
  · intro wS hSw
    obtain ⟨v0, v1, v2, v3, v4, -⟩ := hSw.1.c
    go_simp
    all_goals with_reducible rfl
  simp only [Act.put, List.setIfInBounds_toArray, List.set_cons_zero, List.set_cons_succ]
  refine wpAnyT_take (i := 2) (v := ?_) [6, 7] (oi := { dst := some 11, op := Go.Op.build 32 #[(0, Go.Operand.tmp 10)], type := 32, pos := "read.go:45", after := #[{ on := 1, ground := Go.Ground.data }], guard := none }) rfl (by kernel_rfl) (by kernel_rfl) (by kernel_rfl) (by kernel_rfl) (fun _ _ _ h => h) (Or.inl ⟨by rfl, ?_⟩) hHeld ?_
  rotate_left
  · intro wS hSw
    go_simp
    all_goals with_reducible rfl
  simp only [Act.put, List.setIfInBounds_toArray, List.set_cons_zero, List.set_cons_succ]
  refine wpAnyT_take (i := 3) (v := ?_) [4, 5, 6, 7] (oi := { dst := some 12, op := Go.Op.fieldAddr 25 (Go.Operand.tmp 1) 1, type := 0, pos := "read.go:45", after := #[], guard := none }) rfl (by kernel_rfl) (by kernel_rfl) (by kernel_rfl) (by kernel_rfl) (fun _ _ _ h => h) (Or.inl ⟨by rfl, ?_⟩) hHeld ?_
  rotate_left
  · intro wS hSw
    go_simp
    all_goals with_reducible rfl
  simp only [Act.put, List.setIfInBounds_toArray, List.set_cons_zero, List.set_cons_succ]
  refine wpAnyT_take (i := 4) (v := ?_) [5, 6, 7] (oi := { dst := some 13, op := Go.Op.load 3 (Go.Operand.tmp 12), type := 3, pos := "read.go:45", after := #[{ on := 3, ground := Go.Ground.data }], guard := none }) rfl (by kernel_rfl) (by kernel_rfl) (by kernel_rfl) (by kernel_rfl) (fun _ _ _ h => h) (Or.inl ⟨by rfl, ?_⟩) hHeld ?_
  rotate_left
  · intro wS hSw
    obtain ⟨v0, v1, v2, v3, v4, -⟩ := hSw.1.c
    go_simp
    all_goals with_reducible rfl
  simp only [Act.put, List.setIfInBounds_toArray, List.set_cons_zero, List.set_cons_succ]
  refine wpAnyT_ready (rs := [5]) (by kernel_rfl) (by simp) ?_
  refine AllReadyT.cons (i := 5) (o := { dst := some 14, op := Go.Op.call { callee := Go.Callee.value (Go.Operand.func 25), args := #[Go.Operand.tmp 13], argTypes := #[3] }, type := 4, pos := "read.go:45", after := #[{ on := 4, ground := Go.Ground.data }], guard := none }) rfl (fun K hK => ?_) ?_
  · go_simp
    refine (isWeight_at _ _).mono ?_
    rintro e wq ⟨rfl, rfl⟩
    refine hK.out _ _ hHeld (fun hHeld2 => ?_)
    clear hK K
    replace hHeld := hHeld2
    clear hHeld2
    try simp only [Act.put, List.setIfInBounds_toArray, List.set_cons_zero, List.set_cons_succ]
    obtain ⟨o0, o1, f0, f1⟩ := KT.out.2.1.c
    clear hHeld
    refine wpAnyT_last (i := 6) (o := { dst := none, op := Go.Op.store 32 (Go.Operand.tmp 2) (Go.Operand.tmp 11), type := 0, pos := "read.go:45", after := #[{ on := 2, ground := Go.Ground.data }, { on := 5, ground := Go.Ground.chain }, { on := 0, ground := Go.Ground.phase }, { on := 1, ground := Go.Ground.phase }, { on := 2, ground := Go.Ground.phase }, { on := 3, ground := Go.Ground.textOnly Go.Departure.lateStores }, { on := 4, ground := Go.Ground.textOnly Go.Departure.lateStores }, { on := 5, ground := Go.Ground.textOnly Go.Departure.lateStoresUnsure }], guard := none }) (by kernel_rfl) (by rfl) rfl (fun K hK => ?_)
    go_simp
    refine hK.out _ _ ?_
    clear hK K
    try simp only [Act.put, List.setIfInBounds_toArray, List.set_cons_zero, List.set_cons_succ]
    refine wpAnyT_last (i := 7) (o := { dst := some 3, op := Go.Op.assign (Go.Operand.tmp 14), type := 4, pos := "read.go:45", after := #[{ on := 5, ground := Go.Ground.data }, { on := 6, ground := Go.Ground.chain }, { on := 0, ground := Go.Ground.phase }, { on := 1, ground := Go.Ground.phase }, { on := 2, ground := Go.Ground.phase }, { on := 3, ground := Go.Ground.phase }, { on := 4, ground := Go.Ground.phase }, { on := 5, ground := Go.Ground.phase }, { on := 6, ground := Go.Ground.phase }], guard := none }) (by kernel_rfl) (by rfl) rfl (fun K hK => ?_)
    go_simp
    refine hK.out _ _ ?_
    clear hK K
    try simp only [Act.put, List.setIfInBounds_toArray, List.set_cons_zero, List.set_cons_succ]
    refine wpAnyT_done (by kernel_rfl) ?_ _
    go_wp2_with fail
    obtain ⟨z0, z1, -⟩ := (KT.out.2.1.set (⟨t.n, 0⟩)).c
    refine bodyPost_ret (v := .tuple #[stpV (⟨t.n, 0⟩), .bool (isW t.n)]) ?_ rfl ⟨⟨t.n, 0⟩, by rw [FIN.out], FV.out, bel_trans (bel_set (bel_set KT.out.2.2 (by omega) _ _) (by omega) _ _) ((Below.refl _ _).drew)⟩
    simp only at z0 z1
    simp [results, Try.results33, go_sem, z0, z1, stpV]
  exact AllReadyT.nil
set_option maxRecDepth 100000 in
set_option maxHeartbeats 4000000 in
theorem readStep_none (w : World) (ok : Nat → Prop) (t : V) (v : Value) (h : In w ok t v) (hk : t.kind ≠ 2) (hm : memV t pauseB = none) :
    Calls Try.prog 33 #[v] w fun e w' => ∃ x : Stp, e = .returned (.tuple #[stpV x, .bool (readStepF t).isSome]) ∧ (∀ z, readStepF t = some z → x = z) ∧ Below w.heap.size w w' := by
  have H := hidI h
  obtain ⟨a1, b1, c1, d1, rfl⟩ := h.form
  have K0 : Hid (RS w w.heap.size t a1 b1 c1 d1 ((w.alloc (.cells #[.int .i64 t.kind, .int .i64 t.n, .string ⟨t.s.toArray⟩, .slice a1 t.keys.length c1, .slice b1 t.l.length d1] 25)).alloc (.cells #[.int .i64 0, .int .i64 0] 32))) := hidI ⟨h2a w _ _, h2b w _ _, bel_trans (bel_alloc _ _) (bel_alloc _ _)⟩
  clear h
  have e1 : (t.kind == 2) = false := by simp [hk]
  have HM := hidI hm
  have FIN : Hid ((readStepF t).isSome = false) := hidI (by rw [readStepF, if_neg hk, hm]; rfl)
  have FV : Hid (∀ z, readStepF t ≠ some z) := hidI (fun z hz => by rw [readStepF, if_neg hk, hm] at hz; cases hz)
  clear hk hm
  go_enter Try.func33, Try.ntmps33
  go_upto_region 3 with fail
  go_wp2_with fail
  refine (member_is _ ok t _ pauseB (by exact H.out.bel K0.out.2.2)).mono ?_
  rintro e w1 ⟨x, b, rfl, hb1, hb2, y, hy, hyz⟩
  obtain ⟨a5, b5, c5, d5, rfl⟩ := hy.form
  have K1 : Hid (RS w w1.heap.size y a5 b5 c5 d5 (w1.alloc (.cells #[.int .i64 y.kind, .int .i64 y.n, .string ⟨y.s.toArray⟩, .slice a5 y.keys.length c5, .slice b5 y.l.length d5] 25))) := hidI ⟨heap_alloc_new w1 _, (K0.out.2.1.bel hb1).bel (bel_alloc _ _), bel_trans (bel_trans K0.out.2.2 hb1) (bel_alloc _ _)⟩
  rw [HM.out] at hb2 hyz
  simp only [Option.isSome] at hb2
  subst hb2
  clear hb1 hy hyz
  go_upto_region 4 with fail
  obtain ⟨W, hW, KW⟩ : ∃ W : World, W = (w1.alloc (.cells #[.int .i64 y.kind, .int .i64 y.n, .string ⟨y.s.toArray⟩, .slice a5 y.keys.length c5, .slice b5 y.l.length d5] 25)) ∧ RS w w1.heap.size y a5 b5 c5 d5 W := ⟨_, rfl, K1.out⟩
  rw [← hW]
  clear hW
  refine wp_region_T (fun wS => RS w w1.heap.size y a5 b5 c5 d5 wS) [14] (by kernel_rfl) (KW.bel (bel_drewN W 1)) (fun hHeld => ?_)
  have KT := hidI KW
  clear KW
  refine wpAnyT_take (i := 0) (v := ?_) [1, 2, 14, 15] (oi := { dst := some 20, op := Go.Op.fieldAddr 25 (Go.Operand.tmp 4) 1, type := 0, pos := "read.go:48", after := #[], guard := none }) rfl (by kernel_rfl) (by kernel_rfl) (by kernel_rfl) (by kernel_rfl) (fun _ _ _ h => h) (Or.inl ⟨by rfl, ?_⟩) hHeld ?_
  rotate_left
  · intro wS hSw
    go_simp
    all_goals with_reducible rfl
  simp only [Act.put, List.setIfInBounds_toArray, List.set_cons_zero, List.set_cons_succ]
  refine wpAnyT_take (i := 1) (v := ?_) [2, 14, 15] (oi := { dst := some 21, op := Go.Op.load 3 (Go.Operand.tmp 20), type := 3, pos := "read.go:48", after := #[{ on := 0, ground := Go.Ground.data }], guard := none }) rfl (by kernel_rfl) (by kernel_rfl) (by kernel_rfl) (by kernel_rfl) (fun _ _ _ h => h) (Or.inl ⟨by rfl, ?_⟩) hHeld ?_
  rotate_left
  · intro wS hSw
    obtain ⟨v0, v1, v2, v3, v4, -⟩ := hSw.1.c
    go_simp
    all_goals with_reducible rfl
  simp only [Act.put, List.setIfInBounds_toArray, List.set_cons_zero, List.set_cons_succ]
  refine wpAnyT_take (i := 2) (v := ?_) [14, 15] (oi := { dst := some 22, op := Go.Op.build 32 #[(0, Go.Operand.const (Go.Value.int Go.IntKind.i64 (-1))), (1, Go.Operand.tmp 21)], type := 32, pos := "read.go:48", after := #[{ on := 1, ground := Go.Ground.data }], guard := none }) rfl (by kernel_rfl) (by kernel_rfl) (by kernel_rfl) (by kernel_rfl) (fun _ _ _ h => h) (Or.inl ⟨by rfl, ?_⟩) hHeld ?_
  rotate_left
  · intro wS hSw
    go_simp
    all_goals with_reducible rfl
  simp only [Act.put, List.setIfInBounds_toArray, List.set_cons_zero, List.set_cons_succ]
  refine wpAnyT_take (i := 3) (v := ?_) [4, 5, 6, 7, 8, 9, 10, 11, 12, 13, 14, 15] (oi := { dst := some 23, op := Go.Op.move (Go.Operand.tmp 5), type := 4, pos := "read.go:48", after := #[], guard := none }) rfl (by kernel_rfl) (by kernel_rfl) (by kernel_rfl) (by kernel_rfl) (fun _ _ _ h => h) (Or.inl ⟨by rfl, ?_⟩) hHeld ?_
  rotate_left
  · intro wS hSw
    go_simp
    all_goals with_reducible rfl
  simp only [Act.put, List.setIfInBounds_toArray, List.set_cons_zero, List.set_cons_succ]
  refine wpAnyT_take (i := 4) (v := ?_) [5, 6, 7, 8, 9, 10, 11, 12, 13, 14, 15] (oi := { dst := some 24, op := Go.Op.move (Go.Operand.tmp 23), type := 4, pos := "read.go:48", after := #[{ on := 3, ground := Go.Ground.data }], guard := none }) rfl (by kernel_rfl) (by kernel_rfl) (by kernel_rfl) (by kernel_rfl) (fun _ _ _ h => h) (Or.inl ⟨by rfl, ?_⟩) hHeld ?_
  rotate_left
  · intro wS hSw
    go_simp
    all_goals with_reducible rfl
  simp only [Act.put, List.setIfInBounds_toArray, List.set_cons_zero, List.set_cons_succ]
  refine wpAnyT_take (i := 5) (v := undef) [6, 7, 8, 9, 10, 11, 12, 13, 14, 15] (oi := { dst := some 25, op := Go.Op.fieldAddr 25 (Go.Operand.tmp 4) 0, type := 0, pos := "read.go:48", after := #[{ on := 4, ground := Go.Ground.guard }], guard := some (4, true) }) rfl (by kernel_rfl) (by kernel_rfl) (by kernel_rfl) (by kernel_rfl) (fun _ _ _ h => h) (Or.inr ⟨by rfl, rfl⟩) hHeld ?_
  simp only [Act.put, List.setIfInBounds_toArray, List.set_cons_zero, List.set_cons_succ]
  refine wpAnyT_take (i := 6) (v := undef) [7, 8, 9, 10, 11, 12, 13, 14, 15] (oi := { dst := some 26, op := Go.Op.load 3 (Go.Operand.tmp 25), type := 3, pos := "read.go:48", after := #[{ on := 5, ground := Go.Ground.data }, { on := 4, ground := Go.Ground.guard }], guard := some (4, true) }) rfl (by kernel_rfl) (by kernel_rfl) (by kernel_rfl) (by kernel_rfl) (fun _ _ _ h => h) (Or.inr ⟨by rfl, rfl⟩) hHeld ?_
  simp only [Act.put, List.setIfInBounds_toArray, List.set_cons_zero, List.set_cons_succ]
  refine wpAnyT_take (i := 7) (v := undef) [8, 9, 10, 11, 12, 13, 14, 15] (oi := { dst := some 27, op := Go.Op.binOp Go.BinOp.eql 3 (Go.Operand.tmp 26) (Go.Operand.const (Go.Value.int Go.IntKind.i64 2)) 3, type := 4, pos := "read.go:48", after := #[{ on := 6, ground := Go.Ground.data }, { on := 4, ground := Go.Ground.guard }], guard := some (4, true) }) rfl (by kernel_rfl) (by kernel_rfl) (by kernel_rfl) (by kernel_rfl) (fun _ _ _ h => h) (Or.inr ⟨by rfl, rfl⟩) hHeld ?_
  simp only [Act.put, List.setIfInBounds_toArray, List.set_cons_zero, List.set_cons_succ]
  refine wpAnyT_take (i := 8) (v := ?_) [9, 10, 11, 12, 13, 14, 15] (oi := { dst := some 28, op := Go.Op.pick (Go.Operand.tmp 24) (Go.Operand.tmp 27) (Go.Operand.const (Go.Value.bool false)), type := 4, pos := "read.go:48", after := #[{ on := 4, ground := Go.Ground.data }, { on := 7, ground := Go.Ground.data }], guard := none }) rfl (by kernel_rfl) (by kernel_rfl) (by kernel_rfl) (by kernel_rfl) (fun _ _ _ h => h) (Or.inl ⟨by rfl, ?_⟩) hHeld ?_
  rotate_left
  · intro wS hSw
    go_simp
    all_goals with_reducible rfl
  simp only [Act.put, List.setIfInBounds_toArray, List.set_cons_zero, List.set_cons_succ]
  refine wpAnyT_take (i := 9) (v := ?_) [10, 11, 12, 13, 14, 15] (oi := { dst := some 29, op := Go.Op.move (Go.Operand.tmp 28), type := 4, pos := "read.go:48", after := #[{ on := 8, ground := Go.Ground.data }, { on := 4, ground := Go.Ground.chain }], guard := none }) rfl (by kernel_rfl) (by kernel_rfl) (by kernel_rfl) (by kernel_rfl) (fun _ _ _ h => h) (Or.inl ⟨by rfl, ?_⟩) hHeld ?_
  rotate_left
  · intro wS hSw
    go_simp
    all_goals with_reducible rfl
  simp only [Act.put, List.setIfInBounds_toArray, List.set_cons_zero, List.set_cons_succ]
  refine wpAnyT_take (i := 10) (v := undef) [11, 12, 13, 14, 15] (oi := { dst := some 30, op := Go.Op.fieldAddr 25 (Go.Operand.tmp 4) 1, type := 0, pos := "read.go:48", after := #[{ on := 9, ground := Go.Ground.guard }], guard := some (9, true) }) rfl (by kernel_rfl) (by kernel_rfl) (by kernel_rfl) (by kernel_rfl) (fun _ _ _ h => h) (Or.inr ⟨by rfl, rfl⟩) hHeld ?_
  simp only [Act.put, List.setIfInBounds_toArray, List.set_cons_zero, List.set_cons_succ]
  refine wpAnyT_take (i := 11) (v := undef) [12, 13, 14, 15] (oi := { dst := some 31, op := Go.Op.load 3 (Go.Operand.tmp 30), type := 3, pos := "read.go:48", after := #[{ on := 10, ground := Go.Ground.data }, { on := 9, ground := Go.Ground.guard }], guard := some (9, true) }) rfl (by kernel_rfl) (by kernel_rfl) (by kernel_rfl) (by kernel_rfl) (fun _ _ _ h => h) (Or.inr ⟨by rfl, rfl⟩) hHeld ?_
  simp only [Act.put, List.setIfInBounds_toArray, List.set_cons_zero, List.set_cons_succ]
  refine wpAnyT_ready (rs := [12]) (by kernel_rfl) (by simp) ?_
  refine AllReadyT.cons (i := 12) (o := { dst := some 32, op := Go.Op.call { callee := Go.Callee.value (Go.Operand.func 24), args := #[Go.Operand.tmp 31], argTypes := #[3] }, type := 4, pos := "read.go:48", after := #[{ on := 11, ground := Go.Ground.data }, { on := 9, ground := Go.Ground.chain }, { on := 9, ground := Go.Ground.guard }], guard := some (9, true) }) rfl (fun K hK => ?_) ?_
  · go_simp
    refine hK.out _ _ hHeld (fun hHeld2 => ?_)
    clear hK K
    replace hHeld := hHeld2
    clear hHeld2
    try simp only [Act.put, List.setIfInBounds_toArray, List.set_cons_zero, List.set_cons_succ]
    refine wpAnyT_takeY (i := 13) (v := ?_) (oi := { dst := some 33, op := Go.Op.pick (Go.Operand.tmp 29) (Go.Operand.tmp 32) (Go.Operand.const (Go.Value.bool false)), type := 4, pos := "read.go:48", after := #[{ on := 9, ground := Go.Ground.data }, { on := 12, ground := Go.Ground.data }, { on := 14, ground := Go.Ground.gcOnly Go.Departure.lateStores }], guard := none }) rfl (by kernel_rfl) (by kernel_rfl) (by kernel_rfl) (by rfl) (fun _ _ _ h => h) (Or.inl ⟨by rfl, ?_⟩) hHeld ?_
    rotate_left
    · intro wS
      go_simp
      all_goals with_reducible rfl
    simp only [Act.put, List.setIfInBounds_toArray, List.set_cons_zero, List.set_cons_succ]
    obtain ⟨o0, o1, f0, f1⟩ := KT.out.2.1.c
    clear hHeld
    refine wpAnyT_last (i := 14) (o := { dst := none, op := Go.Op.store 32 (Go.Operand.tmp 2) (Go.Operand.tmp 22), type := 0, pos := "read.go:48", after := #[{ on := 2, ground := Go.Ground.data }, { on := 12, ground := Go.Ground.chain }, { on := 0, ground := Go.Ground.phase }, { on := 1, ground := Go.Ground.phase }, { on := 2, ground := Go.Ground.phase }, { on := 3, ground := Go.Ground.textOnly Go.Departure.lateStores }, { on := 4, ground := Go.Ground.textOnly Go.Departure.lateStores }, { on := 5, ground := Go.Ground.textOnly Go.Departure.lateStores }, { on := 6, ground := Go.Ground.textOnly Go.Departure.lateStores }, { on := 7, ground := Go.Ground.textOnly Go.Departure.lateStores }, { on := 8, ground := Go.Ground.textOnly Go.Departure.lateStores }, { on := 9, ground := Go.Ground.textOnly Go.Departure.lateStores }, { on := 10, ground := Go.Ground.textOnly Go.Departure.lateStores }, { on := 11, ground := Go.Ground.textOnly Go.Departure.lateStores }, { on := 12, ground := Go.Ground.textOnly Go.Departure.lateStoresUnsure }, { on := 13, ground := Go.Ground.textOnly Go.Departure.lateStores }], guard := none }) (by kernel_rfl) (by rfl) rfl (fun K hK => ?_)
    go_simp
    refine hK.out _ _ ?_
    clear hK K
    try simp only [Act.put, List.setIfInBounds_toArray, List.set_cons_zero, List.set_cons_succ]
    refine wpAnyT_last (i := 15) (o := { dst := some 3, op := Go.Op.assign (Go.Operand.tmp 33), type := 4, pos := "read.go:48", after := #[{ on := 13, ground := Go.Ground.data }, { on := 14, ground := Go.Ground.chain }, { on := 0, ground := Go.Ground.phase }, { on := 1, ground := Go.Ground.phase }, { on := 2, ground := Go.Ground.phase }, { on := 3, ground := Go.Ground.phase }, { on := 4, ground := Go.Ground.phase }, { on := 5, ground := Go.Ground.phase }, { on := 6, ground := Go.Ground.phase }, { on := 7, ground := Go.Ground.phase }, { on := 8, ground := Go.Ground.phase }, { on := 9, ground := Go.Ground.phase }, { on := 10, ground := Go.Ground.phase }, { on := 11, ground := Go.Ground.phase }, { on := 12, ground := Go.Ground.phase }, { on := 13, ground := Go.Ground.phase }, { on := 14, ground := Go.Ground.phase }], guard := none }) (by kernel_rfl) (by rfl) rfl (fun K hK => ?_)
    go_simp
    refine hK.out _ _ ?_
    clear hK K
    try simp only [Act.put, List.setIfInBounds_toArray, List.set_cons_zero, List.set_cons_succ]
    refine wpAnyT_done (by kernel_rfl) ?_ _
    go_wp2_with fail
    obtain ⟨z0, z1, -⟩ := (KT.out.2.1.set (⟨-1, y.n⟩)).c
    refine bodyPost_ret (v := .tuple #[stpV (⟨-1, y.n⟩), .bool false]) ?_ rfl ⟨⟨-1, y.n⟩, by rw [FIN.out], fun z hz => absurd hz (FV.out z), bel_trans (bel_set (bel_set KT.out.2.2 (by omega) _ _) (by omega) _ _) ((Below.refl _ _).drew)⟩
    simp only at z0 z1
    simp [results, Try.results33, go_sem, z0, z1, stpV]
  exact AllReadyT.nil
set_option maxRecDepth 100000 in
set_option maxHeartbeats 4000000 in
theorem readStep_other (w : World) (ok : Nat → Prop) (t : V) (v : Value) (h : In w ok t v) (hk : t.kind ≠ 2) (m : V) (hm : memV t pauseB = some m) (hn : m.kind ≠ 2) :
    Calls Try.prog 33 #[v] w fun e w' => ∃ x : Stp, e = .returned (.tuple #[stpV x, .bool (readStepF t).isSome]) ∧ (∀ z, readStepF t = some z → x = z) ∧ Below w.heap.size w w' := by
  have H := hidI h
  obtain ⟨a1, b1, c1, d1, rfl⟩ := h.form
  have K0 : Hid (RS w w.heap.size t a1 b1 c1 d1 ((w.alloc (.cells #[.int .i64 t.kind, .int .i64 t.n, .string ⟨t.s.toArray⟩, .slice a1 t.keys.length c1, .slice b1 t.l.length d1] 25)).alloc (.cells #[.int .i64 0, .int .i64 0] 32))) := hidI ⟨h2a w _ _, h2b w _ _, bel_trans (bel_alloc _ _) (bel_alloc _ _)⟩
  clear h
  have e1 : (t.kind == 2) = false := by simp [hk]
  have HM := hidI hm
  have FS : readStepF t = if m.kind = 2 ∧ isT m.n = true then some ⟨-1, m.n⟩ else none := by rw [readStepF, if_neg hk, hm]
  have e2 : (m.kind == 2) = false := by simp [hn]
  have FIN : Hid ((readStepF t).isSome = false) := hidI (by rw [FS, if_neg (fun e => hn e.1)]; rfl)
  have FV : Hid (∀ z, readStepF t ≠ some z) := hidI (fun z hz => by rw [FS, if_neg (fun e => hn e.1)] at hz; cases hz)
  clear hk hm FS hn
  go_enter Try.func33, Try.ntmps33
  go_upto_region 3 with fail
  go_wp2_with fail
  refine (member_is _ ok t _ pauseB (by exact H.out.bel K0.out.2.2)).mono ?_
  rintro e w1 ⟨x, b, rfl, hb1, hb2, y, hy, hyz⟩
  obtain ⟨a5, b5, c5, d5, rfl⟩ := hy.form
  have K1 : Hid (RS w w1.heap.size y a5 b5 c5 d5 (w1.alloc (.cells #[.int .i64 y.kind, .int .i64 y.n, .string ⟨y.s.toArray⟩, .slice a5 y.keys.length c5, .slice b5 y.l.length d5] 25))) := hidI ⟨heap_alloc_new w1 _, (K0.out.2.1.bel hb1).bel (bel_alloc _ _), bel_trans (bel_trans K0.out.2.2 hb1) (bel_alloc _ _)⟩
  rw [HM.out] at hb2 hyz
  simp only [Option.isSome] at hb2
  subst hb2
  obtain rfl : y = m := hyz m rfl
  clear hb1 hy hyz
  go_upto_region 4 with fail
  obtain ⟨W, hW, KW⟩ : ∃ W : World, W = (w1.alloc (.cells #[.int .i64 y.kind, .int .i64 y.n, .string ⟨y.s.toArray⟩, .slice a5 y.keys.length c5, .slice b5 y.l.length d5] 25)) ∧ RS w w1.heap.size y a5 b5 c5 d5 W := ⟨_, rfl, K1.out⟩
  rw [← hW]
  clear hW
  refine wp_region_T (fun wS => RS w w1.heap.size y a5 b5 c5 d5 wS) [14] (by kernel_rfl) (KW.bel (bel_drewN W 1)) (fun hHeld => ?_)
  have KT := hidI KW
  clear KW
  refine wpAnyT_take (i := 0) (v := ?_) [1, 2, 14, 15] (oi := { dst := some 20, op := Go.Op.fieldAddr 25 (Go.Operand.tmp 4) 1, type := 0, pos := "read.go:48", after := #[], guard := none }) rfl (by kernel_rfl) (by kernel_rfl) (by kernel_rfl) (by kernel_rfl) (fun _ _ _ h => h) (Or.inl ⟨by rfl, ?_⟩) hHeld ?_
  rotate_left
  · intro wS hSw
    go_simp
    all_goals with_reducible rfl
  simp only [Act.put, List.setIfInBounds_toArray, List.set_cons_zero, List.set_cons_succ]
  refine wpAnyT_take (i := 1) (v := ?_) [2, 14, 15] (oi := { dst := some 21, op := Go.Op.load 3 (Go.Operand.tmp 20), type := 3, pos := "read.go:48", after := #[{ on := 0, ground := Go.Ground.data }], guard := none }) rfl (by kernel_rfl) (by kernel_rfl) (by kernel_rfl) (by kernel_rfl) (fun _ _ _ h => h) (Or.inl ⟨by rfl, ?_⟩) hHeld ?_
  rotate_left
  · intro wS hSw
    obtain ⟨v0, v1, v2, v3, v4, -⟩ := hSw.1.c
    go_simp
    all_goals with_reducible rfl
  simp only [Act.put, List.setIfInBounds_toArray, List.set_cons_zero, List.set_cons_succ]
  refine wpAnyT_take (i := 2) (v := ?_) [14, 15] (oi := { dst := some 22, op := Go.Op.build 32 #[(0, Go.Operand.const (Go.Value.int Go.IntKind.i64 (-1))), (1, Go.Operand.tmp 21)], type := 32, pos := "read.go:48", after := #[{ on := 1, ground := Go.Ground.data }], guard := none }) rfl (by kernel_rfl) (by kernel_rfl) (by kernel_rfl) (by kernel_rfl) (fun _ _ _ h => h) (Or.inl ⟨by rfl, ?_⟩) hHeld ?_
  rotate_left
  · intro wS hSw
    go_simp
    all_goals with_reducible rfl
  simp only [Act.put, List.setIfInBounds_toArray, List.set_cons_zero, List.set_cons_succ]
  refine wpAnyT_take (i := 3) (v := ?_) [4, 5, 6, 7, 8, 9, 10, 11, 12, 13, 14, 15] (oi := { dst := some 23, op := Go.Op.move (Go.Operand.tmp 5), type := 4, pos := "read.go:48", after := #[], guard := none }) rfl (by kernel_rfl) (by kernel_rfl) (by kernel_rfl) (by kernel_rfl) (fun _ _ _ h => h) (Or.inl ⟨by rfl, ?_⟩) hHeld ?_
  rotate_left
  · intro wS hSw
    go_simp
    all_goals with_reducible rfl
  simp only [Act.put, List.setIfInBounds_toArray, List.set_cons_zero, List.set_cons_succ]
  refine wpAnyT_take (i := 4) (v := ?_) [5, 6, 7, 8, 9, 10, 11, 12, 13, 14, 15] (oi := { dst := some 24, op := Go.Op.move (Go.Operand.tmp 23), type := 4, pos := "read.go:48", after := #[{ on := 3, ground := Go.Ground.data }], guard := none }) rfl (by kernel_rfl) (by kernel_rfl) (by kernel_rfl) (by kernel_rfl) (fun _ _ _ h => h) (Or.inl ⟨by rfl, ?_⟩) hHeld ?_
  rotate_left
  · intro wS hSw
    go_simp
    all_goals with_reducible rfl
  simp only [Act.put, List.setIfInBounds_toArray, List.set_cons_zero, List.set_cons_succ]
  refine wpAnyT_take (i := 5) (v := ?_) [6, 7, 8, 9, 10, 11, 12, 13, 14, 15] (oi := { dst := some 25, op := Go.Op.fieldAddr 25 (Go.Operand.tmp 4) 0, type := 0, pos := "read.go:48", after := #[{ on := 4, ground := Go.Ground.guard }], guard := some (4, true) }) rfl (by kernel_rfl) (by kernel_rfl) (by kernel_rfl) (by kernel_rfl) (fun _ _ _ h => h) (Or.inl ⟨by rfl, ?_⟩) hHeld ?_
  rotate_left
  · intro wS hSw
    go_simp
    all_goals with_reducible rfl
  simp only [Act.put, List.setIfInBounds_toArray, List.set_cons_zero, List.set_cons_succ]
  refine wpAnyT_take (i := 6) (v := ?_) [7, 8, 9, 10, 11, 12, 13, 14, 15] (oi := { dst := some 26, op := Go.Op.load 3 (Go.Operand.tmp 25), type := 3, pos := "read.go:48", after := #[{ on := 5, ground := Go.Ground.data }, { on := 4, ground := Go.Ground.guard }], guard := some (4, true) }) rfl (by kernel_rfl) (by kernel_rfl) (by kernel_rfl) (by kernel_rfl) (fun _ _ _ h => h) (Or.inl ⟨by rfl, ?_⟩) hHeld ?_
  rotate_left
  · intro wS hSw
    obtain ⟨v0, v1, v2, v3, v4, -⟩ := hSw.1.c
    go_simp
    all_goals with_reducible rfl
  simp only [Act.put, List.setIfInBounds_toArray, List.set_cons_zero, List.set_cons_succ]
  refine wpAnyT_take (i := 7) (v := ?_) [8, 9, 10, 11, 12, 13, 14, 15] (oi := { dst := some 27, op := Go.Op.binOp Go.BinOp.eql 3 (Go.Operand.tmp 26) (Go.Operand.const (Go.Value.int Go.IntKind.i64 2)) 3, type := 4, pos := "read.go:48", after := #[{ on := 6, ground := Go.Ground.data }, { on := 4, ground := Go.Ground.guard }], guard := some (4, true) }) rfl (by kernel_rfl) (by kernel_rfl) (by kernel_rfl) (by kernel_rfl) (fun _ _ _ h => h) (Or.inl ⟨by rfl, ?_⟩) hHeld ?_
  rotate_left
  · intro wS hSw
    go_simp
    all_goals with_reducible rfl
  simp only [Act.put, List.setIfInBounds_toArray, List.set_cons_zero, List.set_cons_succ]
  refine wpAnyT_take (i := 8) (v := ?_) [9, 10, 11, 12, 13, 14, 15] (oi := { dst := some 28, op := Go.Op.pick (Go.Operand.tmp 24) (Go.Operand.tmp 27) (Go.Operand.const (Go.Value.bool false)), type := 4, pos := "read.go:48", after := #[{ on := 4, ground := Go.Ground.data }, { on := 7, ground := Go.Ground.data }], guard := none }) rfl (by kernel_rfl) (by kernel_rfl) (by kernel_rfl) (by kernel_rfl) (fun _ _ _ h => h) (Or.inl ⟨by rfl, ?_⟩) hHeld ?_
  rotate_left
  · intro wS hSw
    go_simp
    all_goals with_reducible rfl
  simp only [Act.put, List.setIfInBounds_toArray, List.set_cons_zero, List.set_cons_succ]
  refine wpAnyT_take (i := 9) (v := ?_) [10, 11, 12, 13, 14, 15] (oi := { dst := some 29, op := Go.Op.move (Go.Operand.tmp 28), type := 4, pos := "read.go:48", after := #[{ on := 8, ground := Go.Ground.data }, { on := 4, ground := Go.Ground.chain }], guard := none }) rfl (by kernel_rfl) (by kernel_rfl) (by kernel_rfl) (by kernel_rfl) (fun _ _ _ h => h) (Or.inl ⟨by rfl, ?_⟩) hHeld ?_
  rotate_left
  · intro wS hSw
    go_simp
    all_goals with_reducible rfl
  simp only [Act.put, List.setIfInBounds_toArray, List.set_cons_zero, List.set_cons_succ]
  refine wpAnyT_take (i := 10) (v := undef) [11, 12, 13, 14, 15] (oi := { dst := some 30, op := Go.Op.fieldAddr 25 (Go.Operand.tmp 4) 1, type := 0, pos := "read.go:48", after := #[{ on := 9, ground := Go.Ground.guard }], guard := some (9, true) }) rfl (by kernel_rfl) (by kernel_rfl) (by kernel_rfl) (by kernel_rfl) (fun _ _ _ h => h) (Or.inr ⟨by rfl, rfl⟩) hHeld ?_
  simp only [Act.put, List.setIfInBounds_toArray, List.set_cons_zero, List.set_cons_succ]
  refine wpAnyT_take (i := 11) (v := undef) [12, 13, 14, 15] (oi := { dst := some 31, op := Go.Op.load 3 (Go.Operand.tmp 30), type := 3, pos := "read.go:48", after := #[{ on := 10, ground := Go.Ground.data }, { on := 9, ground := Go.Ground.guard }], guard := some (9, true) }) rfl (by kernel_rfl) (by kernel_rfl) (by kernel_rfl) (by kernel_rfl) (fun _ _ _ h => h) (Or.inr ⟨by rfl, rfl⟩) hHeld ?_
  simp only [Act.put, List.setIfInBounds_toArray, List.set_cons_zero, List.set_cons_succ]
  refine wpAnyT_ready (rs := [12]) (by kernel_rfl) (by simp) ?_
  refine AllReadyT.cons (i := 12) (o := { dst := some 32, op := Go.Op.call { callee := Go.Callee.value (Go.Operand.func 24), args := #[Go.Operand.tmp 31], argTypes := #[3] }, type := 4, pos := "read.go:48", after := #[{ on := 11, ground := Go.Ground.data }, { on := 9, ground := Go.Ground.chain }, { on := 9, ground := Go.Ground.guard }], guard := some (9, true) }) rfl (fun K hK => ?_) ?_
  · go_simp
    refine hK.out _ _ hHeld (fun hHeld2 => ?_)
    clear hK K
    replace hHeld := hHeld2
    clear hHeld2
    try simp only [Act.put, List.setIfInBounds_toArray, List.set_cons_zero, List.set_cons_succ]
    refine wpAnyT_takeY (i := 13) (v := ?_) (oi := { dst := some 33, op := Go.Op.pick (Go.Operand.tmp 29) (Go.Operand.tmp 32) (Go.Operand.const (Go.Value.bool false)), type := 4, pos := "read.go:48", after := #[{ on := 9, ground := Go.Ground.data }, { on := 12, ground := Go.Ground.data }, { on := 14, ground := Go.Ground.gcOnly Go.Departure.lateStores }], guard := none }) rfl (by kernel_rfl) (by kernel_rfl) (by kernel_rfl) (by rfl) (fun _ _ _ h => h) (Or.inl ⟨by rfl, ?_⟩) hHeld ?_
    rotate_left
    · intro wS
      go_simp
      all_goals with_reducible rfl
    simp only [Act.put, List.setIfInBounds_toArray, List.set_cons_zero, List.set_cons_succ]
    obtain ⟨o0, o1, f0, f1⟩ := KT.out.2.1.c
    clear hHeld
    refine wpAnyT_last (i := 14) (o := { dst := none, op := Go.Op.store 32 (Go.Operand.tmp 2) (Go.Operand.tmp 22), type := 0, pos := "read.go:48", after := #[{ on := 2, ground := Go.Ground.data }, { on := 12, ground := Go.Ground.chain }, { on := 0, ground := Go.Ground.phase }, { on := 1, ground := Go.Ground.phase }, { on := 2, ground := Go.Ground.phase }, { on := 3, ground := Go.Ground.textOnly Go.Departure.lateStores }, { on := 4, ground := Go.Ground.textOnly Go.Departure.lateStores }, { on := 5, ground := Go.Ground.textOnly Go.Departure.lateStores }, { on := 6, ground := Go.Ground.textOnly Go.Departure.lateStores }, { on := 7, ground := Go.Ground.textOnly Go.Departure.lateStores }, { on := 8, ground := Go.Ground.textOnly Go.Departure.lateStores }, { on := 9, ground := Go.Ground.textOnly Go.Departure.lateStores }, { on := 10, ground := Go.Ground.textOnly Go.Departure.lateStores }, { on := 11, ground := Go.Ground.textOnly Go.Departure.lateStores }, { on := 12, ground := Go.Ground.textOnly Go.Departure.lateStoresUnsure }, { on := 13, ground := Go.Ground.textOnly Go.Departure.lateStores }], guard := none }) (by kernel_rfl) (by rfl) rfl (fun K hK => ?_)
    go_simp
    refine hK.out _ _ ?_
    clear hK K
    try simp only [Act.put, List.setIfInBounds_toArray, List.set_cons_zero, List.set_cons_succ]
    refine wpAnyT_last (i := 15) (o := { dst := some 3, op := Go.Op.assign (Go.Operand.tmp 33), type := 4, pos := "read.go:48", after := #[{ on := 13, ground := Go.Ground.data }, { on := 14, ground := Go.Ground.chain }, { on := 0, ground := Go.Ground.phase }, { on := 1, ground := Go.Ground.phase }, { on := 2, ground := Go.Ground.phase }, { on := 3, ground := Go.Ground.phase }, { on := 4, ground := Go.Ground.phase }, { on := 5, ground := Go.Ground.phase }, { on := 6, ground := Go.Ground.phase }, { on := 7, ground := Go.Ground.phase }, { on := 8, ground := Go.Ground.phase }, { on := 9, ground := Go.Ground.phase }, { on := 10, ground := Go.Ground.phase }, { on := 11, ground := Go.Ground.phase }, { on := 12, ground := Go.Ground.phase }, { on := 13, ground := Go.Ground.phase }, { on := 14, ground := Go.Ground.phase }], guard := none }) (by kernel_rfl) (by rfl) rfl (fun K hK => ?_)
    go_simp
    refine hK.out _ _ ?_
    clear hK K
    try simp only [Act.put, List.setIfInBounds_toArray, List.set_cons_zero, List.set_cons_succ]
    refine wpAnyT_done (by kernel_rfl) ?_ _
    go_wp2_with fail
    obtain ⟨z0, z1, -⟩ := (KT.out.2.1.set (⟨-1, y.n⟩)).c
    refine bodyPost_ret (v := .tuple #[stpV (⟨-1, y.n⟩), .bool false]) ?_ rfl ⟨⟨-1, y.n⟩, by rw [FIN.out], fun z hz => absurd hz (FV.out z), bel_trans (bel_set (bel_set KT.out.2.2 (by omega) _ _) (by omega) _ _) ((Below.refl _ _).drew)⟩
    simp only at z0 z1
    simp [results, Try.results33, go_sem, z0, z1, stpV]
  exact AllReadyT.nil
set_option maxRecDepth 100000 in
set_option maxHeartbeats 4000000 in
theorem readStep_pause (w : World) (ok : Nat → Prop) (t : V) (v : Value) (h : In w ok t v) (hk : t.kind ≠ 2) (m : V) (hm : memV t pauseB = some m) (hn : m.kind = 2) :
    Calls Try.prog 33 #[v] w fun e w' => ∃ x : Stp, e = .returned (.tuple #[stpV x, .bool (readStepF t).isSome]) ∧ (∀ z, readStepF t = some z → x = z) ∧ Below w.heap.size w w' := by
  have H := hidI h
  obtain ⟨a1, b1, c1, d1, rfl⟩ := h.form
  have K0 : Hid (RS w w.heap.size t a1 b1 c1 d1 ((w.alloc (.cells #[.int .i64 t.kind, .int .i64 t.n, .string ⟨t.s.toArray⟩, .slice a1 t.keys.length c1, .slice b1 t.l.length d1] 25)).alloc (.cells #[.int .i64 0, .int .i64 0] 32))) := hidI ⟨h2a w _ _, h2b w _ _, bel_trans (bel_alloc _ _) (bel_alloc _ _)⟩
  clear h
  have e1 : (t.kind == 2) = false := by simp [hk]
  have HM := hidI hm
  have FS : readStepF t = if m.kind = 2 ∧ isT m.n = true then some ⟨-1, m.n⟩ else none := by rw [readStepF, if_neg hk, hm]
  have e2 : (m.kind == 2) = true := by simp [hn]
  have FIN : Hid ((readStepF t).isSome = isT m.n) := hidI (by rw [FS]; cases hT : isT m.n <;> simp [hn])
  have FV : Hid (∀ z, readStepF t = some z → (⟨-1, m.n⟩ : Stp) = z) := hidI (fun z hz => by rw [FS] at hz; cases hT : isT m.n <;> simp [hn, hT] at hz; exact hz)
  clear hk hm FS hn
  go_enter Try.func33, Try.ntmps33
  go_upto_region 3 with fail
  go_wp2_with fail
  refine (member_is _ ok t _ pauseB (by exact H.out.bel K0.out.2.2)).mono ?_
  rintro e w1 ⟨x, b, rfl, hb1, hb2, y, hy, hyz⟩
  obtain ⟨a5, b5, c5, d5, rfl⟩ := hy.form
  have K1 : Hid (RS w w1.heap.size y a5 b5 c5 d5 (w1.alloc (.cells #[.int .i64 y.kind, .int .i64 y.n, .string ⟨y.s.toArray⟩, .slice a5 y.keys.length c5, .slice b5 y.l.length d5] 25))) := hidI ⟨heap_alloc_new w1 _, (K0.out.2.1.bel hb1).bel (bel_alloc _ _), bel_trans (bel_trans K0.out.2.2 hb1) (bel_alloc _ _)⟩
  rw [HM.out] at hb2 hyz
  simp only [Option.isSome] at hb2
  subst hb2
  obtain rfl : y = m := hyz m rfl
  clear hb1 hy hyz
  go_upto_region 4 with fail
  obtain ⟨W, hW, KW⟩ : ∃ W : World, W = (w1.alloc (.cells #[.int .i64 y.kind, .int .i64 y.n, .string ⟨y.s.toArray⟩, .slice a5 y.keys.length c5, .slice b5 y.l.length d5] 25)) ∧ RS w w1.heap.size y a5 b5 c5 d5 W := ⟨_, rfl, K1.out⟩
  rw [← hW]
  clear hW
  refine wp_region_T (fun wS => RS w w1.heap.size y a5 b5 c5 d5 wS) [14] (by kernel_rfl) (KW.bel (bel_drewN W 1)) (fun hHeld => ?_)
  have KT := hidI KW
  clear KW
  refine wpAnyT_take (i := 0) (v := ?_) [1, 2, 14, 15] (oi := { dst := some 20, op := Go.Op.fieldAddr 25 (Go.Operand.tmp 4) 1, type := 0, pos := "read.go:48", after := #[], guard := none }) rfl (by kernel_rfl) (by kernel_rfl) (by kernel_rfl) (by kernel_rfl) (fun _ _ _ h => h) (Or.inl ⟨by rfl, ?_⟩) hHeld ?_
  rotate_left
  · intro wS hSw
    go_simp
    all_goals with_reducible rfl
  simp only [Act.put, List.setIfInBounds_toArray, List.set_cons_zero, List.set_cons_succ]
  refine wpAnyT_take (i := 1) (v := ?_) [2, 14, 15] (oi := { dst := some 21, op := Go.Op.load 3 (Go.Operand.tmp 20), type := 3, pos := "read.go:48", after := #[{ on := 0, ground := Go.Ground.data }], guard := none }) rfl (by kernel_rfl) (by kernel_rfl) (by kernel_rfl) (by kernel_rfl) (fun _ _ _ h => h) (Or.inl ⟨by rfl, ?_⟩) hHeld ?_
  rotate_left
  · intro wS hSw
    obtain ⟨v0, v1, v2, v3, v4, -⟩ := hSw.1.c
    go_simp
    all_goals with_reducible rfl
  simp only [Act.put, List.setIfInBounds_toArray, List.set_cons_zero, List.set_cons_succ]
  refine wpAnyT_take (i := 2) (v := ?_) [14, 15] (oi := { dst := some 22, op := Go.Op.build 32 #[(0, Go.Operand.const (Go.Value.int Go.IntKind.i64 (-1))), (1, Go.Operand.tmp 21)], type := 32, pos := "read.go:48", after := #[{ on := 1, ground := Go.Ground.data }], guard := none }) rfl (by kernel_rfl) (by kernel_rfl) (by kernel_rfl) (by kernel_rfl) (fun _ _ _ h => h) (Or.inl ⟨by rfl, ?_⟩) hHeld ?_
  rotate_left
  · intro wS hSw
    go_simp
    all_goals with_reducible rfl
  simp only [Act.put, List.setIfInBounds_toArray, List.set_cons_zero, List.set_cons_succ]
  refine wpAnyT_take (i := 3) (v := ?_) [4, 5, 6, 7, 8, 9, 10, 11, 12, 13, 14, 15] (oi := { dst := some 23, op := Go.Op.move (Go.Operand.tmp 5), type := 4, pos := "read.go:48", after := #[], guard := none }) rfl (by kernel_rfl) (by kernel_rfl) (by kernel_rfl) (by kernel_rfl) (fun _ _ _ h => h) (Or.inl ⟨by rfl, ?_⟩) hHeld ?_
  rotate_left
  · intro wS hSw
    go_simp
    all_goals with_reducible rfl
  simp only [Act.put, List.setIfInBounds_toArray, List.set_cons_zero, List.set_cons_succ]
  refine wpAnyT_take (i := 4) (v := ?_) [5, 6, 7, 8, 9, 10, 11, 12, 13, 14, 15] (oi := { dst := some 24, op := Go.Op.move (Go.Operand.tmp 23), type := 4, pos := "read.go:48", after := #[{ on := 3, ground := Go.Ground.data }], guard := none }) rfl (by kernel_rfl) (by kernel_rfl) (by kernel_rfl) (by kernel_rfl) (fun _ _ _ h => h) (Or.inl ⟨by rfl, ?_⟩) hHeld ?_
  rotate_left
  · intro wS hSw
    go_simp
    all_goals with_reducible rfl
  simp only [Act.put, List.setIfInBounds_toArray, List.set_cons_zero, List.set_cons_succ]
  refine wpAnyT_take (i := 5) (v := ?_) [6, 7, 8, 9, 10, 11, 12, 13, 14, 15] (oi := { dst := some 25, op := Go.Op.fieldAddr 25 (Go.Operand.tmp 4) 0, type := 0, pos := "read.go:48", after := #[{ on := 4, ground := Go.Ground.guard }], guard := some (4, true) }) rfl (by kernel_rfl) (by kernel_rfl) (by kernel_rfl) (by kernel_rfl) (fun _ _ _ h => h) (Or.inl ⟨by rfl, ?_⟩) hHeld ?_
  rotate_left
  · intro wS hSw
    go_simp
    all_goals with_reducible rfl
  simp only [Act.put, List.setIfInBounds_toArray, List.set_cons_zero, List.set_cons_succ]
  refine wpAnyT_take (i := 6) (v := ?_) [7, 8, 9, 10, 11, 12, 13, 14, 15] (oi := { dst := some 26, op := Go.Op.load 3 (Go.Operand.tmp 25), type := 3, pos := "read.go:48", after := #[{ on := 5, ground := Go.Ground.data }, { on := 4, ground := Go.Ground.guard }], guard := some (4, true) }) rfl (by kernel_rfl) (by kernel_rfl) (by kernel_rfl) (by kernel_rfl) (fun _ _ _ h => h) (Or.inl ⟨by rfl, ?_⟩) hHeld ?_
  rotate_left
  · intro wS hSw
    obtain ⟨v0, v1, v2, v3, v4, -⟩ := hSw.1.c
    go_simp
    all_goals with_reducible rfl
  simp only [Act.put, List.setIfInBounds_toArray, List.set_cons_zero, List.set_cons_succ]
  refine wpAnyT_take (i := 7) (v := ?_) [8, 9, 10, 11, 12, 13, 14, 15] (oi := { dst := some 27, op := Go.Op.binOp Go.BinOp.eql 3 (Go.Operand.tmp 26) (Go.Operand.const (Go.Value.int Go.IntKind.i64 2)) 3, type := 4, pos := "read.go:48", after := #[{ on := 6, ground := Go.Ground.data }, { on := 4, ground := Go.Ground.guard }], guard := some (4, true) }) rfl (by kernel_rfl) (by kernel_rfl) (by kernel_rfl) (by kernel_rfl) (fun _ _ _ h => h) (Or.inl ⟨by rfl, ?_⟩) hHeld ?_
  rotate_left
  · intro wS hSw
    go_simp
    all_goals with_reducible rfl
  simp only [Act.put, List.setIfInBounds_toArray, List.set_cons_zero, List.set_cons_succ]
  refine wpAnyT_take (i := 8) (v := ?_) [9, 10, 11, 12, 13, 14, 15] (oi := { dst := some 28, op := Go.Op.pick (Go.Operand.tmp 24) (Go.Operand.tmp 27) (Go.Operand.const (Go.Value.bool false)), type := 4, pos := "read.go:48", after := #[{ on := 4, ground := Go.Ground.data }, { on := 7, ground := Go.Ground.data }], guard := none }) rfl (by kernel_rfl) (by kernel_rfl) (by kernel_rfl) (by kernel_rfl) (fun _ _ _ h => h) (Or.inl ⟨by rfl, ?_⟩) hHeld ?_
  rotate_left
  · intro wS hSw
    go_simp
    all_goals with_reducible rfl
  simp only [Act.put, List.setIfInBounds_toArray, List.set_cons_zero, List.set_cons_succ]
  refine wpAnyT_take (i := 9) (v := ?_) [10, 11, 12, 13, 14, 15] (oi := { dst := some 29, op := Go.Op.move (Go.Operand.tmp 28), type := 4, pos := "read.go:48", after := #[{ on := 8, ground := Go.Ground.data }, { on := 4, ground := Go.Ground.chain }], guard := none }) rfl (by kernel_rfl) (by kernel_rfl) (by kernel_rfl) (by kernel_rfl) (fun _ _ _ h => h) (Or.inl ⟨by rfl, ?_⟩) hHeld ?_
  rotate_left
  · intro wS hSw
    go_simp
    all_goals with_reducible rfl
  simp only [Act.put, List.setIfInBounds_toArray, List.set_cons_zero, List.set_cons_succ]
  refine wpAnyT_take (i := 10) (v := ?_) [11, 12, 13, 14, 15] (oi := { dst := some 30, op := Go.Op.fieldAddr 25 (Go.Operand.tmp 4) 1, type := 0, pos := "read.go:48", after := #[{ on := 9, ground := Go.Ground.guard }], guard := some (9, true) }) rfl (by kernel_rfl) (by kernel_rfl) (by kernel_rfl) (by kernel_rfl) (fun _ _ _ h => h) (Or.inl ⟨by rfl, ?_⟩) hHeld ?_
  rotate_left
  · intro wS hSw
    go_simp
    all_goals with_reducible rfl
  simp only [Act.put, List.setIfInBounds_toArray, List.set_cons_zero, List.set_cons_succ]
  refine wpAnyT_take (i := 11) (v := ?_) [12, 13, 14, 15] (oi := { dst := some 31, op := Go.Op.load 3 (Go.Operand.tmp 30), type := 3, pos := "read.go:48", after := #[{ on := 10, ground := Go.Ground.data }, { on := 9, ground := Go.Ground.guard }], guard := some (9, true) }) rfl (by kernel_rfl) (by kernel_rfl) (by kernel_rfl) (by kernel_rfl) (fun _ _ _ h => h) (Or.inl ⟨by rfl, ?_⟩) hHeld ?_
  rotate_left
  · intro wS hSw
    obtain ⟨v0, v1, v2, v3, v4, -⟩ := hSw.1.c
    go_simp
    all_goals with_reducible rfl
  simp only [Act.put, List.setIfInBounds_toArray, List.set_cons_zero, List.set_cons_succ]
  refine wpAnyT_ready (rs := [12]) (by kernel_rfl) (by simp) ?_
  refine AllReadyT.cons (i := 12) (o := { dst := some 32, op := Go.Op.call { callee := Go.Callee.value (Go.Operand.func 24), args := #[Go.Operand.tmp 31], argTypes := #[3] }, type := 4, pos := "read.go:48", after := #[{ on := 11, ground := Go.Ground.data }, { on := 9, ground := Go.Ground.chain }, { on := 9, ground := Go.Ground.guard }], guard := some (9, true) }) rfl (fun K hK => ?_) ?_
  · go_simp
    refine (isTime_at _ _).mono ?_
    rintro e wq ⟨rfl, rfl⟩
    refine hK.out _ _ hHeld (fun hHeld2 => ?_)
    clear hK K
    replace hHeld := hHeld2
    clear hHeld2
    try simp only [Act.put, List.setIfInBounds_toArray, List.set_cons_zero, List.set_cons_succ]
    refine wpAnyT_takeY (i := 13) (v := ?_) (oi := { dst := some 33, op := Go.Op.pick (Go.Operand.tmp 29) (Go.Operand.tmp 32) (Go.Operand.const (Go.Value.bool false)), type := 4, pos := "read.go:48", after := #[{ on := 9, ground := Go.Ground.data }, { on := 12, ground := Go.Ground.data }, { on := 14, ground := Go.Ground.gcOnly Go.Departure.lateStores }], guard := none }) rfl (by kernel_rfl) (by kernel_rfl) (by kernel_rfl) (by rfl) (fun _ _ _ h => h) (Or.inl ⟨by rfl, ?_⟩) hHeld ?_
    rotate_left
    · intro wS
      go_simp
      all_goals with_reducible rfl
    simp only [Act.put, List.setIfInBounds_toArray, List.set_cons_zero, List.set_cons_succ]
    obtain ⟨o0, o1, f0, f1⟩ := KT.out.2.1.c
    clear hHeld
    refine wpAnyT_last (i := 14) (o := { dst := none, op := Go.Op.store 32 (Go.Operand.tmp 2) (Go.Operand.tmp 22), type := 0, pos := "read.go:48", after := #[{ on := 2, ground := Go.Ground.data }, { on := 12, ground := Go.Ground.chain }, { on := 0, ground := Go.Ground.phase }, { on := 1, ground := Go.Ground.phase }, { on := 2, ground := Go.Ground.phase }, { on := 3, ground := Go.Ground.textOnly Go.Departure.lateStores }, { on := 4, ground := Go.Ground.textOnly Go.Departure.lateStores }, { on := 5, ground := Go.Ground.textOnly Go.Departure.lateStores }, { on := 6, ground := Go.Ground.textOnly Go.Departure.lateStores }, { on := 7, ground := Go.Ground.textOnly Go.Departure.lateStores }, { on := 8, ground := Go.Ground.textOnly Go.Departure.lateStores }, { on := 9, ground := Go.Ground.textOnly Go.Departure.lateStores }, { on := 10, ground := Go.Ground.textOnly Go.Departure.lateStores }, { on := 11, ground := Go.Ground.textOnly Go.Departure.lateStores }, { on := 12, ground := Go.Ground.textOnly Go.Departure.lateStoresUnsure }, { on := 13, ground := Go.Ground.textOnly Go.Departure.lateStores }], guard := none }) (by kernel_rfl) (by rfl) rfl (fun K hK => ?_)
    go_simp
    refine hK.out _ _ ?_
    clear hK K
    try simp only [Act.put, List.setIfInBounds_toArray, List.set_cons_zero, List.set_cons_succ]
    refine wpAnyT_last (i := 15) (o := { dst := some 3, op := Go.Op.assign (Go.Operand.tmp 33), type := 4, pos := "read.go:48", after := #[{ on := 13, ground := Go.Ground.data }, { on := 14, ground := Go.Ground.chain }, { on := 0, ground := Go.Ground.phase }, { on := 1, ground := Go.Ground.phase }, { on := 2, ground := Go.Ground.phase }, { on := 3, ground := Go.Ground.phase }, { on := 4, ground := Go.Ground.phase }, { on := 5, ground := Go.Ground.phase }, { on := 6, ground := Go.Ground.phase }, { on := 7, ground := Go.Ground.phase }, { on := 8, ground := Go.Ground.phase }, { on := 9, ground := Go.Ground.phase }, { on := 10, ground := Go.Ground.phase }, { on := 11, ground := Go.Ground.phase }, { on := 12, ground := Go.Ground.phase }, { on := 13, ground := Go.Ground.phase }, { on := 14, ground := Go.Ground.phase }], guard := none }) (by kernel_rfl) (by rfl) rfl (fun K hK => ?_)
    go_simp
    refine hK.out _ _ ?_
    clear hK K
    try simp only [Act.put, List.setIfInBounds_toArray, List.set_cons_zero, List.set_cons_succ]
    refine wpAnyT_done (by kernel_rfl) ?_ _
    go_wp2_with fail
    obtain ⟨z0, z1, -⟩ := (KT.out.2.1.set (⟨-1, y.n⟩)).c
    refine bodyPost_ret (v := .tuple #[stpV (⟨-1, y.n⟩), .bool (isT y.n)]) ?_ rfl ⟨⟨-1, y.n⟩, by rw [FIN.out], FV.out, bel_trans (bel_set (bel_set KT.out.2.2 (by omega) _ _) (by omega) _ _) ((Below.refl _ _).drew)⟩
    simp only at z0 z1
    simp [results, Try.results33, go_sem, z0, z1, stpV]
  exact AllReadyT.nil

theorem readStep_at (w : World) (ok : Nat → Prop) (t : V) (v : Value) (h : In w ok t v) :
    Calls Try.prog 33 #[v] w fun e w' => ∃ x : Stp, e = .returned (.tuple #[stpV x, .bool (readStepF t).isSome]) ∧ (∀ z, readStepF t = some z → x = z) ∧ Below w.heap.size w w' := by
  by_cases hk : t.kind = 2
  · exact readStep_num w ok t v h hk
  · cases hm : memV t pauseB with
    | none => exact readStep_none w ok t v h hk hm
    | some m =>
      by_cases hn : m.kind = 2
      · exact readStep_pause w ok t v h hk m hm hn
      · exact readStep_other w ok t v h hk m hm hn
end Go.Proofs.Ytaaaogiheplbmaa
