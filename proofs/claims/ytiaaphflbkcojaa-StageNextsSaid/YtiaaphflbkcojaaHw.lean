/- The walk of the law StageNexts. -/
import Derived.Test.YtiaaphflbkcojaaHj
import Derived.Test.YtiaaphflbkcojaaHh
import Derived.Test.YtiaaphflbkcojaaHq
import Derived.Test.YtiaaphflbkcojaaHx
import Derived.Test.YtiaaphflbkcojaaRu
import Derived.Deep.DeepCutAuto
set_option linter.unusedSimpArgs false
set_option linter.unusedVariables false
namespace Go.Proofs.Ytiaaphflbkcojaa
open Go.RowKit

theorem sstep_run {w : World} {ops : Array Oper} {o : Oper} {a : Act} {K : Act → World → Prop} {Q : Exit → Act → World → Prop} {E : Prop} (hgd : o.guard = none) (s x : Operand) (t : TypeId) (ho : o.op = .call { callee := .builtin .append, args := #[s, x], argTypes := #[t, t] })
    (v u : Value) (hs : a.eval s = v) (hx : a.eval x = u) (R : Value → World → Prop) (hr : ∀ ty, ∃ v' w', (Builtin.append_ #[t, t] ty #[v, u]).run Try.prog w = .ok v' w' ∧ R v' w') (hK : ∀ v' w', R v' w' → K (a.put o.dst v') w') :
    if Region.wanted o (yielded ops a.tmps) = true then Oper.wp Try.prog o a w K Q else E := by
  have hw : Region.wanted o (yielded ops a.tmps) = true := by simp [Region.wanted, hgd]
  rw [if_pos hw]
  obtain ⟨v', w', h1, h2⟩ := hr o.type
  unfold Oper.wp execOp
  simp only [ho, resolve, invoke, builtin, Sem.run_bind, Sem.run_pure, Result.andThen_ok, List.map_toArray, List.map_cons, List.map_nil, hs, hx, h1]
  exact hK v' w' h2
theorem LawI.far {w wr : World} {g : List UInt8} {v : Value} {s : Sta} (h : LawI w wr g v s) {k : Nat} (hk : w.heap.size + 2 ≤ k) (t : Sta) : LawI w (set6 wr k t) g v s :=
  ⟨(((((h.1.far (by omega)).far (by omega)).far (by omega)).far (by omega)).far (by omega)).far (by omega), (((((h.2.1.far (by omega)).far (by omega)).far (by omega)).far (by omega)).far (by omega)).far (by omega), bel_set6 h.2.2 (by omega) t⟩
theorem LawI.big {w wr : World} {g : List UInt8} {v : Value} {s : Sta} (h : LawI w wr g v s) : w.heap.size + 2 ≤ wr.heap.size := by have := h.2.1.lt; omega
theorem rnext_b {W : World} {g : List UInt8} {l : List Stp} {v : Value} (t : Sta) (now order : Int) (h : StpsAre W l v) (hg : g.length ≤ 9223372036854775807) (u : Sta) (n : Int) (e : nextF g l t now order = (u, n)) :
    Calls Try.prog 9 #[.agg #[.string ⟨g.toArray⟩, v], .agg #[.string ⟨t.a.toArray⟩, .string ⟨t.c.toArray⟩, .int .i64 t.ph, .int .i64 t.st, .int .i64 t.we, .int .i64 t.si], .int .i64 now, .int .i64 order] W fun e w' => e = .returned (.tuple #[.agg #[.string ⟨u.a.toArray⟩, .string ⟨u.c.toArray⟩, .int .i64 u.ph, .int .i64 u.st, .int .i64 u.we, .int .i64 u.si], .int .i64 n]) ∧ Below W.heap.size W w' := by
  have k := rnext_at W g l v t now order h hg
  rw [e] at k
  exact k

attribute [local go_sem ↓] Go.wp_at_zero Go.wp_at_succ eq_sta
set_option maxRecDepth 100000 in
set_option maxHeartbeats 8000000 in
theorem nexts_walk (w : World) (g : List UInt8) (l : List Stp) (v : Value) (t : Sta) (now order : Int) (h : StpsAre w l v) (hg : g.length ≤ 9223372036854775807) (hl : l.length ≤ 8796093022208) :
    Calls Try.prog 3 #[.agg #[.string ⟨g.toArray⟩, v], staV t, .int .i64 now, .int .i64 order] w fun e w' => e = .returned (.bool true) ∧ Below w.heap.size w w' := by
  have E1 : staV t = .agg #[.string ⟨t.a.toArray⟩, .string ⟨t.c.toArray⟩, .int .i64 t.ph, .int .i64 t.st, .int .i64 t.we, .int .i64 t.si] := rfl
  rw [E1]
  clear E1
  obtain ⟨a, c, rfl⟩ := h.form
  have H := hidI h
  have G := hidI hg
  have LL := hidI hl
  have N0 := hidI (law_start w g (.slice a l.length c) t)
  obtain ⟨r, hr⟩ : ∃ r, nextF g l t now order = r := ⟨_, rfl⟩
  obtain ⟨u, n⟩ := r
  have HR := hidI hr
  clear h hg hr hl
  go_enter Try.func3, Try.ntmps3
  go_upto_region 1 with fail
  go_cut [9, 10] (fun p e wc => ∃ q : Nat, p = .pointer (some ⟨q, 0, none⟩) ∧ e = .int .i64 n ∧ Hid (LawI w wc g (.slice a l.length c) t) ∧ Hid (SBox wc q u))
  case first =>
    refine wp_region_T (fun wS => LawI w wS g (.slice a l.length c) t) [14] (by kernel_rfl) (N0.out.bel (bel_drewN _ 1)) (fun hHeld => ?_)
    refine wpAnyT_take (i := 0) (v := ?_) [1, 5, 9, 10, 11, 12, 14, 15] (oi := { dst := some 14, op := Go.Op.fieldAddr 24 (Go.Operand.tmp 4) 0, type := 0, pos := "law.go:203", after := #[], guard := none }) rfl (by kernel_rfl) (by kernel_rfl) (by kernel_rfl) (by kernel_rfl) (fun _ _ _ h => h) (Or.inl ⟨by rfl, ?_⟩) hHeld ?_
    rotate_left
    · intro wS hSw
      go_simp
      all_goals with_reducible rfl
    simp only [Act.put, List.setIfInBounds_toArray, List.set_cons_zero, List.set_cons_succ]
    refine wpAnyT_take (i := 1) (v := ?_) [5, 9, 10, 11, 12, 14, 15] (oi := { dst := some 15, op := Go.Op.load 9 (Go.Operand.tmp 14), type := 9, pos := "law.go:203", after := #[{ on := 0, ground := Go.Ground.data }], guard := none }) rfl (by kernel_rfl) (by kernel_rfl) (by kernel_rfl) (by kernel_rfl) (fun _ _ _ h => h) (Or.inl ⟨by rfl, ?_⟩) hHeld ?_
    rotate_left
    · intro wS hSw
      obtain ⟨v0, v1⟩ := hSw.1.c
      obtain ⟨y0, y1, y2, y3, y4, y5, -⟩ := hSw.2.1.c
      go_simp
      all_goals with_reducible rfl
    simp only [Act.put, List.setIfInBounds_toArray, List.set_cons_zero, List.set_cons_succ]
    refine wpAnyT_take (i := 2) (v := ?_) [3, 4, 5, 9, 10, 11, 12, 14, 15] (oi := { dst := some 16, op := Go.Op.fieldAddr 24 (Go.Operand.tmp 4) 1, type := 0, pos := "law.go:203", after := #[], guard := none }) rfl (by kernel_rfl) (by kernel_rfl) (by kernel_rfl) (by kernel_rfl) (fun _ _ _ h => h) (Or.inl ⟨by rfl, ?_⟩) hHeld ?_
    rotate_left
    · intro wS hSw
      go_simp
      all_goals with_reducible rfl
    simp only [Act.put, List.setIfInBounds_toArray, List.set_cons_zero, List.set_cons_succ]
    refine wpAnyT_take (i := 3) (v := ?_) [4, 5, 9, 10, 11, 12, 14, 15] (oi := { dst := some 17, op := Go.Op.load 22 (Go.Operand.tmp 16), type := 22, pos := "law.go:203", after := #[{ on := 2, ground := Go.Ground.data }], guard := none }) rfl (by kernel_rfl) (by kernel_rfl) (by kernel_rfl) (by kernel_rfl) (fun _ _ _ h => h) (Or.inl ⟨by rfl, ?_⟩) hHeld ?_
    rotate_left
    · intro wS hSw
      obtain ⟨v0, v1⟩ := hSw.1.c
      obtain ⟨y0, y1, y2, y3, y4, y5, -⟩ := hSw.2.1.c
      go_simp
      all_goals with_reducible rfl
    simp only [Act.put, List.setIfInBounds_toArray, List.set_cons_zero, List.set_cons_succ]
    refine wpAnyT_take (i := 6) (v := ?_) [9, 10, 11, 12, 14, 15] (oi := { dst := some 20, op := Go.Op.load 26 (Go.Operand.tmp 5), type := 26, pos := "law.go:203", after := #[], guard := none }) rfl (by kernel_rfl) (by kernel_rfl) (by kernel_rfl) (by kernel_rfl) (fun _ _ _ h => h) (Or.inl ⟨by rfl, ?_⟩) hHeld ?_
    rotate_left
    · intro wS hSw
      obtain ⟨v0, v1⟩ := hSw.1.c
      obtain ⟨y0, y1, y2, y3, y4, y5, -⟩ := hSw.2.1.c
      go_simp
      all_goals with_reducible rfl
    simp only [Act.put, List.setIfInBounds_toArray, List.set_cons_zero, List.set_cons_succ]
    refine wpAnyT_take (i := 7) (v := ?_) [9, 10, 11, 12, 14, 15] (oi := { dst := some 21, op := Go.Op.move (Go.Operand.tmp 2), type := 3, pos := "law.go:203", after := #[], guard := none }) rfl (by kernel_rfl) (by kernel_rfl) (by kernel_rfl) (by kernel_rfl) (fun _ _ _ h => h) (Or.inl ⟨by rfl, ?_⟩) hHeld ?_
    rotate_left
    · intro wS hSw
      go_simp
      all_goals with_reducible rfl
    simp only [Act.put, List.setIfInBounds_toArray, List.set_cons_zero, List.set_cons_succ]
    refine wpAnyT_take (i := 8) (v := ?_) [9, 10, 11, 12, 14, 15] (oi := { dst := some 22, op := Go.Op.move (Go.Operand.tmp 3), type := 3, pos := "law.go:203", after := #[], guard := none }) rfl (by kernel_rfl) (by kernel_rfl) (by kernel_rfl) (by kernel_rfl) (fun _ _ _ h => h) (Or.inl ⟨by rfl, ?_⟩) hHeld ?_
    rotate_left
    · intro wS hSw
      go_simp
      all_goals with_reducible rfl
    simp only [Act.put, List.setIfInBounds_toArray, List.set_cons_zero, List.set_cons_succ]
    refine wpAnyT_ready (rs := [4, 13]) (by kernel_rfl) (by simp) ?_
    refine AllReadyT.cons (i := 4) (o := { dst := some 18, op := Go.Op.call { callee := Go.Callee.builtin Go.Builtin.append, args := #[Go.Operand.const (Go.Value.slice none 0 0), Go.Operand.tmp 17], argTypes := #[22, 22] }, type := 22, pos := "law.go:203", after := #[{ on := 3, ground := Go.Ground.data }], guard := none }) rfl (fun K hK => ?_) ?_
    · have SA := hidI (H.out.bel hHeld.2.2)
      refine sstep_run (by rfl) (.const (.slice none 0 0)) (.tmp 17) 22 (by rfl) _ _ rfl rfl _ (fun ty => run_copyT _ l _ SA.out LL.out ty) (fun v9 W9 hR => ?_)
      obtain ⟨hsl, hb9⟩ := hR
      obtain ⟨a9, c9, rfl⟩ := hsl.form
      have SL := hidI hsl
      refine hK.out _ _ (hHeld.bel hb9) (fun hHeld2 => ?_)
      clear hsl hb9 SA
      clear hK K
      replace hHeld := hHeld2
      clear hHeld2
      try simp only [Act.put, List.setIfInBounds_toArray, List.set_cons_zero, List.set_cons_succ]
      refine wpAnyT_take (i := 5) (v := ?_) [9, 10, 11, 12, 14, 15] (oi := { dst := some 19, op := Go.Op.build 24 #[(0, Go.Operand.tmp 15), (1, Go.Operand.tmp 18)], type := 24, pos := "law.go:203", after := #[{ on := 1, ground := Go.Ground.data }, { on := 4, ground := Go.Ground.data }], guard := none }) rfl (by kernel_rfl) (by kernel_rfl) (by kernel_rfl) (by kernel_rfl) (fun _ _ _ h => h) (Or.inl ⟨by rfl, ?_⟩) hHeld ?_
      rotate_left
      · intro wS hSw
        go_simp
        all_goals with_reducible rfl
      simp only [Act.put, List.setIfInBounds_toArray, List.set_cons_zero, List.set_cons_succ]
      refine wpAnyT_ready (rs := [9, 13]) (by kernel_rfl) (by simp) ?_
      refine AllReadyT.cons (i := 9) (o := { dst := some 23, op := Go.Op.call { callee := Go.Callee.value (Go.Operand.func 8), args := #[Go.Operand.tmp 19, Go.Operand.tmp 20, Go.Operand.tmp 21, Go.Operand.tmp 22], argTypes := #[24, 26, 3, 3] }, type := 28, pos := "law.go:203", after := #[{ on := 5, ground := Go.Ground.data }, { on := 6, ground := Go.Ground.data }, { on := 7, ground := Go.Ground.data }, { on := 8, ground := Go.Ground.data }, { on := 4, ground := Go.Ground.chain }], guard := none }) rfl (fun K hK => ?_) ?_
      · go_simp
        refine (next_b t now order (by exact SL.out) G.out u n HR.out).mono ?_
        rintro e w9q ⟨rfl, hb⟩
        refine hK.out _ _ (hHeld.bel hb) (fun hHeld2 => ?_)
        clear hb SL
        clear hK K
        replace hHeld := hHeld2
        clear hHeld2
        try simp only [Act.put, List.setIfInBounds_toArray, List.set_cons_zero, List.set_cons_succ]
        refine wpAnyT_take (i := 10) (v := ?_) [11, 12, 14, 15] (oi := { dst := some 13, op := Go.Op.move (Go.Operand.tmp 23), type := 28, pos := "law.go:203", after := #[{ on := 9, ground := Go.Ground.data }], guard := none }) rfl (by kernel_rfl) (by kernel_rfl) (by kernel_rfl) (by kernel_rfl) (fun _ _ _ h => h) (Or.inl ⟨by rfl, ?_⟩) hHeld ?_
        rotate_left
        · intro wS hSw
          go_simp
          all_goals with_reducible rfl
        simp only [Act.put, List.setIfInBounds_toArray, List.set_cons_zero, List.set_cons_succ]
        refine wpAnyT_take (i := 11) (v := ?_) [14, 15] (oi := { dst := some 24, op := Go.Op.extract (Go.Operand.tmp 13) 0, type := 26, pos := "law.go:203", after := #[{ on := 10, ground := Go.Ground.data }], guard := none }) rfl (by kernel_rfl) (by kernel_rfl) (by kernel_rfl) (by kernel_rfl) (fun _ _ _ h => h) (Or.inl ⟨by rfl, ?_⟩) hHeld ?_
        rotate_left
        · intro wS hSw
          go_simp
          all_goals with_reducible rfl
        simp only [Act.put, List.setIfInBounds_toArray, List.set_cons_zero, List.set_cons_succ]
        refine wpAnyT_takeY (i := 12) (v := ?_) (oi := { dst := some 25, op := Go.Op.extract (Go.Operand.tmp 13) 1, type := 27, pos := "law.go:203", after := #[{ on := 10, ground := Go.Ground.data }, { on := 14, ground := Go.Ground.gcOnly Go.Departure.lateStores }], guard := none }) rfl (by kernel_rfl) (by kernel_rfl) (by kernel_rfl) (by rfl) (fun _ _ _ h => h) (Or.inl ⟨by rfl, ?_⟩) hHeld ?_
        rotate_left
        · intro wS
          go_simp
          all_goals with_reducible rfl
        simp only [Act.put, List.setIfInBounds_toArray, List.set_cons_zero, List.set_cons_succ]
        refine wpAnyT_ready (rs := [13]) (by kernel_rfl) (by simp) ?_
        refine AllReadyT.cons (i := 13) (o := { dst := some 9, op := Go.Op.alloc 26, type := 0, pos := "law.go:203", after := #[], guard := none }) rfl (fun K hK => ?_) ?_
        · go_simp
          have HB := hidI hHeld
          have BX : Hid (SBox (w9q.alloc (.cells #[.string ⟨#[]⟩, .string ⟨#[]⟩, .int .i64 0, .int .i64 0, .int .i64 0, .int .i64 0] 26)) w9q.heap.size zeroS) := hidI (heap_alloc_new _ _)
          have GG : Hid (w.heap.size + 2 ≤ w9q.heap.size) := hidI hHeld.big
          refine hK.out _ _ (hHeld.bel (bel_alloc _ (.cells #[.string ⟨#[]⟩, .string ⟨#[]⟩, .int .i64 0, .int .i64 0, .int .i64 0, .int .i64 0] 26))) (fun hHeld2 => ?_)
          clear hK K
          replace hHeld := hHeld2
          clear hHeld2
          try simp only [Act.put, List.setIfInBounds_toArray, List.set_cons_zero, List.set_cons_succ]
          obtain ⟨o0, o1, o2, o3, o4, o5, f0, f1, f2, f3, f4, f5⟩ := BX.out.c
          have HE := hidI hHeld
          clear hHeld
          refine wpAnyT_last (i := 14) (o := { dst := none, op := Go.Op.store 26 (Go.Operand.tmp 9) (Go.Operand.tmp 24), type := 0, pos := "law.go:203", after := #[{ on := 13, ground := Go.Ground.data }, { on := 11, ground := Go.Ground.data }, { on := 9, ground := Go.Ground.chain }, { on := 0, ground := Go.Ground.phase }, { on := 1, ground := Go.Ground.phase }, { on := 2, ground := Go.Ground.phase }, { on := 3, ground := Go.Ground.phase }, { on := 4, ground := Go.Ground.phase }, { on := 5, ground := Go.Ground.phase }, { on := 6, ground := Go.Ground.phase }, { on := 7, ground := Go.Ground.phase }, { on := 8, ground := Go.Ground.phase }, { on := 9, ground := Go.Ground.phase }, { on := 10, ground := Go.Ground.phase }, { on := 11, ground := Go.Ground.phase }, { on := 12, ground := Go.Ground.textOnly Go.Departure.lateStores }, { on := 13, ground := Go.Ground.phase }], guard := none }) (by kernel_rfl) (by rfl) rfl (fun K hK => ?_)
          go_simp
          refine hK.out _ _ ?_
          clear hK K
          try simp only [Act.put, List.setIfInBounds_toArray, List.set_cons_zero, List.set_cons_succ]
          refine wpAnyT_last (i := 15) (o := { dst := some 10, op := Go.Op.assign (Go.Operand.tmp 25), type := 27, pos := "law.go:203", after := #[{ on := 12, ground := Go.Ground.data }, { on := 14, ground := Go.Ground.chain }, { on := 0, ground := Go.Ground.phase }, { on := 1, ground := Go.Ground.phase }, { on := 2, ground := Go.Ground.phase }, { on := 3, ground := Go.Ground.phase }, { on := 4, ground := Go.Ground.phase }, { on := 5, ground := Go.Ground.phase }, { on := 6, ground := Go.Ground.phase }, { on := 7, ground := Go.Ground.phase }, { on := 8, ground := Go.Ground.phase }, { on := 9, ground := Go.Ground.phase }, { on := 10, ground := Go.Ground.phase }, { on := 11, ground := Go.Ground.phase }, { on := 12, ground := Go.Ground.phase }, { on := 13, ground := Go.Ground.phase }, { on := 14, ground := Go.Ground.phase }], guard := none }) (by kernel_rfl) (by rfl) rfl (fun K hK => ?_)
          go_simp
          refine hK.out _ _ ?_
          clear hK K
          try simp only [Act.put, List.setIfInBounds_toArray, List.set_cons_zero, List.set_cons_succ]
          refine wpAnyT_done (by kernel_rfl) ?_ _
          go_wp2_with fail
          go_meet
          case rel => exact ⟨_, rfl, rfl, hidI (HB.out.bel (bel_alloc _ _)), hidI (heap_alloc_new _ _)⟩
        exact AllReadyT.nil
      refine AllReadyT.cons (i := 13) (o := { dst := some 9, op := Go.Op.alloc 26, type := 0, pos := "law.go:203", after := #[], guard := none }) rfl (fun K hK => ?_) ?_
      · go_simp
        have HB := hidI hHeld
        have BX : Hid (SBox (W9.alloc (.cells #[.string ⟨#[]⟩, .string ⟨#[]⟩, .int .i64 0, .int .i64 0, .int .i64 0, .int .i64 0] 26)) W9.heap.size zeroS) := hidI (heap_alloc_new _ _)
        have GG : Hid (w.heap.size + 2 ≤ W9.heap.size) := hidI hHeld.big
        replace SL := hidI (SL.out.bel (bel_alloc W9 (.cells #[.string ⟨#[]⟩, .string ⟨#[]⟩, .int .i64 0, .int .i64 0, .int .i64 0, .int .i64 0] 26)))
        refine hK.out _ _ (hHeld.bel (bel_alloc _ (.cells #[.string ⟨#[]⟩, .string ⟨#[]⟩, .int .i64 0, .int .i64 0, .int .i64 0, .int .i64 0] 26))) (fun hHeld2 => ?_)
        clear hK K
        replace hHeld := hHeld2
        clear hHeld2
        try simp only [Act.put, List.setIfInBounds_toArray, List.set_cons_zero, List.set_cons_succ]
        refine wpAnyT_ready (rs := [9]) (by kernel_rfl) (by simp) ?_
        refine AllReadyT.cons (i := 9) (o := { dst := some 23, op := Go.Op.call { callee := Go.Callee.value (Go.Operand.func 8), args := #[Go.Operand.tmp 19, Go.Operand.tmp 20, Go.Operand.tmp 21, Go.Operand.tmp 22], argTypes := #[24, 26, 3, 3] }, type := 28, pos := "law.go:203", after := #[{ on := 5, ground := Go.Ground.data }, { on := 6, ground := Go.Ground.data }, { on := 7, ground := Go.Ground.data }, { on := 8, ground := Go.Ground.data }, { on := 4, ground := Go.Ground.chain }], guard := none }) rfl (fun K hK => ?_) ?_
        · go_simp
          refine (next_b t now order (by exact SL.out) G.out u n HR.out).mono ?_
          rintro e w9q ⟨rfl, hb⟩
          replace BX := hidI (BX.out.bel hb)
          refine hK.out _ _ (hHeld.bel hb) (fun hHeld2 => ?_)
          clear hb SL
          clear hK K
          replace hHeld := hHeld2
          clear hHeld2
          try simp only [Act.put, List.setIfInBounds_toArray, List.set_cons_zero, List.set_cons_succ]
          refine wpAnyT_take (i := 10) (v := ?_) [11, 12, 14, 15] (oi := { dst := some 13, op := Go.Op.move (Go.Operand.tmp 23), type := 28, pos := "law.go:203", after := #[{ on := 9, ground := Go.Ground.data }], guard := none }) rfl (by kernel_rfl) (by kernel_rfl) (by kernel_rfl) (by kernel_rfl) (fun _ _ _ h => h) (Or.inl ⟨by rfl, ?_⟩) hHeld ?_
          rotate_left
          · intro wS hSw
            go_simp
            all_goals with_reducible rfl
          simp only [Act.put, List.setIfInBounds_toArray, List.set_cons_zero, List.set_cons_succ]
          refine wpAnyT_take (i := 11) (v := ?_) [14, 15] (oi := { dst := some 24, op := Go.Op.extract (Go.Operand.tmp 13) 0, type := 26, pos := "law.go:203", after := #[{ on := 10, ground := Go.Ground.data }], guard := none }) rfl (by kernel_rfl) (by kernel_rfl) (by kernel_rfl) (by kernel_rfl) (fun _ _ _ h => h) (Or.inl ⟨by rfl, ?_⟩) hHeld ?_
          rotate_left
          · intro wS hSw
            go_simp
            all_goals with_reducible rfl
          simp only [Act.put, List.setIfInBounds_toArray, List.set_cons_zero, List.set_cons_succ]
          refine wpAnyT_takeY (i := 12) (v := ?_) (oi := { dst := some 25, op := Go.Op.extract (Go.Operand.tmp 13) 1, type := 27, pos := "law.go:203", after := #[{ on := 10, ground := Go.Ground.data }, { on := 14, ground := Go.Ground.gcOnly Go.Departure.lateStores }], guard := none }) rfl (by kernel_rfl) (by kernel_rfl) (by kernel_rfl) (by rfl) (fun _ _ _ h => h) (Or.inl ⟨by rfl, ?_⟩) hHeld ?_
          rotate_left
          · intro wS
            go_simp
            all_goals with_reducible rfl
          simp only [Act.put, List.setIfInBounds_toArray, List.set_cons_zero, List.set_cons_succ]
          obtain ⟨o0, o1, o2, o3, o4, o5, f0, f1, f2, f3, f4, f5⟩ := BX.out.c
          have HE := hidI hHeld
          clear hHeld
          refine wpAnyT_last (i := 14) (o := { dst := none, op := Go.Op.store 26 (Go.Operand.tmp 9) (Go.Operand.tmp 24), type := 0, pos := "law.go:203", after := #[{ on := 13, ground := Go.Ground.data }, { on := 11, ground := Go.Ground.data }, { on := 9, ground := Go.Ground.chain }, { on := 0, ground := Go.Ground.phase }, { on := 1, ground := Go.Ground.phase }, { on := 2, ground := Go.Ground.phase }, { on := 3, ground := Go.Ground.phase }, { on := 4, ground := Go.Ground.phase }, { on := 5, ground := Go.Ground.phase }, { on := 6, ground := Go.Ground.phase }, { on := 7, ground := Go.Ground.phase }, { on := 8, ground := Go.Ground.phase }, { on := 9, ground := Go.Ground.phase }, { on := 10, ground := Go.Ground.phase }, { on := 11, ground := Go.Ground.phase }, { on := 12, ground := Go.Ground.textOnly Go.Departure.lateStores }, { on := 13, ground := Go.Ground.phase }], guard := none }) (by kernel_rfl) (by rfl) rfl (fun K hK => ?_)
          go_simp
          refine hK.out _ _ ?_
          clear hK K
          try simp only [Act.put, List.setIfInBounds_toArray, List.set_cons_zero, List.set_cons_succ]
          refine wpAnyT_last (i := 15) (o := { dst := some 10, op := Go.Op.assign (Go.Operand.tmp 25), type := 27, pos := "law.go:203", after := #[{ on := 12, ground := Go.Ground.data }, { on := 14, ground := Go.Ground.chain }, { on := 0, ground := Go.Ground.phase }, { on := 1, ground := Go.Ground.phase }, { on := 2, ground := Go.Ground.phase }, { on := 3, ground := Go.Ground.phase }, { on := 4, ground := Go.Ground.phase }, { on := 5, ground := Go.Ground.phase }, { on := 6, ground := Go.Ground.phase }, { on := 7, ground := Go.Ground.phase }, { on := 8, ground := Go.Ground.phase }, { on := 9, ground := Go.Ground.phase }, { on := 10, ground := Go.Ground.phase }, { on := 11, ground := Go.Ground.phase }, { on := 12, ground := Go.Ground.phase }, { on := 13, ground := Go.Ground.phase }, { on := 14, ground := Go.Ground.phase }], guard := none }) (by kernel_rfl) (by rfl) rfl (fun K hK => ?_)
          go_simp
          refine hK.out _ _ ?_
          clear hK K
          try simp only [Act.put, List.setIfInBounds_toArray, List.set_cons_zero, List.set_cons_succ]
          refine wpAnyT_done (by kernel_rfl) ?_ _
          go_wp2_with fail
          go_meet
          case rel => exact ⟨_, rfl, rfl, hidI (HE.out.far (by exact GG.out) u), hidI (by exact BX.out.set u)⟩
        exact AllReadyT.nil
      exact AllReadyT.nil
    refine AllReadyT.cons (i := 13) (o := { dst := some 9, op := Go.Op.alloc 26, type := 0, pos := "law.go:203", after := #[], guard := none }) rfl (fun K hK => ?_) ?_
    · go_simp
      have BX : Hid (SBox ((((w.alloc (.cells #[.string ⟨g.toArray⟩, .slice a l.length c] 24)).alloc (.cells #[.string ⟨t.a.toArray⟩, .string ⟨t.c.toArray⟩, .int .i64 t.ph, .int .i64 t.st, .int .i64 t.we, .int .i64 t.si] 26)).alloc (.cells #[.string ⟨#[]⟩, .string ⟨#[]⟩, .int .i64 0, .int .i64 0, .int .i64 0, .int .i64 0] 26)).drew) (w.heap.size + 1 + 1) zeroS) := hidI (by
        have e := heap_alloc_new ((w.alloc (.cells #[.string ⟨g.toArray⟩, .slice a l.length c] 24)).alloc (.cells #[.string ⟨t.a.toArray⟩, .string ⟨t.c.toArray⟩, .int .i64 t.ph, .int .i64 t.st, .int .i64 t.we, .int .i64 t.si] 26)) (.cells #[.string ⟨#[]⟩, .string ⟨#[]⟩, .int .i64 0, .int .i64 0, .int .i64 0, .int .i64 0] 26)
        have e2 : ((w.alloc (.cells #[.string ⟨g.toArray⟩, .slice a l.length c] 24)).alloc (.cells #[.string ⟨t.a.toArray⟩, .string ⟨t.c.toArray⟩, .int .i64 t.ph, .int .i64 t.st, .int .i64 t.we, .int .i64 t.si] 26)).heap.size = w.heap.size + 1 + 1 := by simp
        rw [e2] at e
        exact e)
      have GG : Hid (w.heap.size + 2 ≤ w.heap.size + 1 + 1) := hidI (Nat.le_refl _)
      refine hK.out _ _ ((N0.out.bel (bel_alloc _ (.cells #[.string ⟨#[]⟩, .string ⟨#[]⟩, .int .i64 0, .int .i64 0, .int .i64 0, .int .i64 0] 26))).bel (bel_drewN _ 1)) (fun hHeld2 => ?_)
      clear hK K
      replace hHeld := hHeld2
      clear hHeld2
      try simp only [Act.put, List.setIfInBounds_toArray, List.set_cons_zero, List.set_cons_succ]
      refine wpAnyT_ready (rs := [4]) (by kernel_rfl) (by simp) ?_
      refine AllReadyT.cons (i := 4) (o := { dst := some 18, op := Go.Op.call { callee := Go.Callee.builtin Go.Builtin.append, args := #[Go.Operand.const (Go.Value.slice none 0 0), Go.Operand.tmp 17], argTypes := #[22, 22] }, type := 22, pos := "law.go:203", after := #[{ on := 3, ground := Go.Ground.data }], guard := none }) rfl (fun K hK => ?_) ?_
      · have SA := hidI (H.out.bel hHeld.2.2)
        refine sstep_run (by rfl) (.const (.slice none 0 0)) (.tmp 17) 22 (by rfl) _ _ rfl rfl _ (fun ty => run_copyT _ l _ SA.out LL.out ty) (fun v9 W9 hR => ?_)
        obtain ⟨hsl, hb9⟩ := hR
        obtain ⟨a9, c9, rfl⟩ := hsl.form
        have SL := hidI hsl
        replace BX := hidI (BX.out.bel hb9)
        refine hK.out _ _ (hHeld.bel hb9) (fun hHeld2 => ?_)
        clear hsl hb9 SA
        clear hK K
        replace hHeld := hHeld2
        clear hHeld2
        try simp only [Act.put, List.setIfInBounds_toArray, List.set_cons_zero, List.set_cons_succ]
        refine wpAnyT_take (i := 5) (v := ?_) [9, 10, 11, 12, 14, 15] (oi := { dst := some 19, op := Go.Op.build 24 #[(0, Go.Operand.tmp 15), (1, Go.Operand.tmp 18)], type := 24, pos := "law.go:203", after := #[{ on := 1, ground := Go.Ground.data }, { on := 4, ground := Go.Ground.data }], guard := none }) rfl (by kernel_rfl) (by kernel_rfl) (by kernel_rfl) (by kernel_rfl) (fun _ _ _ h => h) (Or.inl ⟨by rfl, ?_⟩) hHeld ?_
        rotate_left
        · intro wS hSw
          go_simp
          all_goals with_reducible rfl
        simp only [Act.put, List.setIfInBounds_toArray, List.set_cons_zero, List.set_cons_succ]
        refine wpAnyT_ready (rs := [9]) (by kernel_rfl) (by simp) ?_
        refine AllReadyT.cons (i := 9) (o := { dst := some 23, op := Go.Op.call { callee := Go.Callee.value (Go.Operand.func 8), args := #[Go.Operand.tmp 19, Go.Operand.tmp 20, Go.Operand.tmp 21, Go.Operand.tmp 22], argTypes := #[24, 26, 3, 3] }, type := 28, pos := "law.go:203", after := #[{ on := 5, ground := Go.Ground.data }, { on := 6, ground := Go.Ground.data }, { on := 7, ground := Go.Ground.data }, { on := 8, ground := Go.Ground.data }, { on := 4, ground := Go.Ground.chain }], guard := none }) rfl (fun K hK => ?_) ?_
        · go_simp
          refine (next_b t now order (by exact SL.out) G.out u n HR.out).mono ?_
          rintro e w9q ⟨rfl, hb⟩
          replace BX := hidI (BX.out.bel hb)
          refine hK.out _ _ (hHeld.bel hb) (fun hHeld2 => ?_)
          clear hb SL
          clear hK K
          replace hHeld := hHeld2
          clear hHeld2
          try simp only [Act.put, List.setIfInBounds_toArray, List.set_cons_zero, List.set_cons_succ]
          refine wpAnyT_take (i := 10) (v := ?_) [11, 12, 14, 15] (oi := { dst := some 13, op := Go.Op.move (Go.Operand.tmp 23), type := 28, pos := "law.go:203", after := #[{ on := 9, ground := Go.Ground.data }], guard := none }) rfl (by kernel_rfl) (by kernel_rfl) (by kernel_rfl) (by kernel_rfl) (fun _ _ _ h => h) (Or.inl ⟨by rfl, ?_⟩) hHeld ?_
          rotate_left
          · intro wS hSw
            go_simp
            all_goals with_reducible rfl
          simp only [Act.put, List.setIfInBounds_toArray, List.set_cons_zero, List.set_cons_succ]
          refine wpAnyT_take (i := 11) (v := ?_) [14, 15] (oi := { dst := some 24, op := Go.Op.extract (Go.Operand.tmp 13) 0, type := 26, pos := "law.go:203", after := #[{ on := 10, ground := Go.Ground.data }], guard := none }) rfl (by kernel_rfl) (by kernel_rfl) (by kernel_rfl) (by kernel_rfl) (fun _ _ _ h => h) (Or.inl ⟨by rfl, ?_⟩) hHeld ?_
          rotate_left
          · intro wS hSw
            go_simp
            all_goals with_reducible rfl
          simp only [Act.put, List.setIfInBounds_toArray, List.set_cons_zero, List.set_cons_succ]
          refine wpAnyT_takeY (i := 12) (v := ?_) (oi := { dst := some 25, op := Go.Op.extract (Go.Operand.tmp 13) 1, type := 27, pos := "law.go:203", after := #[{ on := 10, ground := Go.Ground.data }, { on := 14, ground := Go.Ground.gcOnly Go.Departure.lateStores }], guard := none }) rfl (by kernel_rfl) (by kernel_rfl) (by kernel_rfl) (by rfl) (fun _ _ _ h => h) (Or.inl ⟨by rfl, ?_⟩) hHeld ?_
          rotate_left
          · intro wS
            go_simp
            all_goals with_reducible rfl
          simp only [Act.put, List.setIfInBounds_toArray, List.set_cons_zero, List.set_cons_succ]
          obtain ⟨o0, o1, o2, o3, o4, o5, f0, f1, f2, f3, f4, f5⟩ := BX.out.c
          have HE := hidI hHeld
          clear hHeld
          refine wpAnyT_last (i := 14) (o := { dst := none, op := Go.Op.store 26 (Go.Operand.tmp 9) (Go.Operand.tmp 24), type := 0, pos := "law.go:203", after := #[{ on := 13, ground := Go.Ground.data }, { on := 11, ground := Go.Ground.data }, { on := 9, ground := Go.Ground.chain }, { on := 0, ground := Go.Ground.phase }, { on := 1, ground := Go.Ground.phase }, { on := 2, ground := Go.Ground.phase }, { on := 3, ground := Go.Ground.phase }, { on := 4, ground := Go.Ground.phase }, { on := 5, ground := Go.Ground.phase }, { on := 6, ground := Go.Ground.phase }, { on := 7, ground := Go.Ground.phase }, { on := 8, ground := Go.Ground.phase }, { on := 9, ground := Go.Ground.phase }, { on := 10, ground := Go.Ground.phase }, { on := 11, ground := Go.Ground.phase }, { on := 12, ground := Go.Ground.textOnly Go.Departure.lateStores }, { on := 13, ground := Go.Ground.phase }], guard := none }) (by kernel_rfl) (by rfl) rfl (fun K hK => ?_)
          go_simp
          refine hK.out _ _ ?_
          clear hK K
          try simp only [Act.put, List.setIfInBounds_toArray, List.set_cons_zero, List.set_cons_succ]
          refine wpAnyT_last (i := 15) (o := { dst := some 10, op := Go.Op.assign (Go.Operand.tmp 25), type := 27, pos := "law.go:203", after := #[{ on := 12, ground := Go.Ground.data }, { on := 14, ground := Go.Ground.chain }, { on := 0, ground := Go.Ground.phase }, { on := 1, ground := Go.Ground.phase }, { on := 2, ground := Go.Ground.phase }, { on := 3, ground := Go.Ground.phase }, { on := 4, ground := Go.Ground.phase }, { on := 5, ground := Go.Ground.phase }, { on := 6, ground := Go.Ground.phase }, { on := 7, ground := Go.Ground.phase }, { on := 8, ground := Go.Ground.phase }, { on := 9, ground := Go.Ground.phase }, { on := 10, ground := Go.Ground.phase }, { on := 11, ground := Go.Ground.phase }, { on := 12, ground := Go.Ground.phase }, { on := 13, ground := Go.Ground.phase }, { on := 14, ground := Go.Ground.phase }], guard := none }) (by kernel_rfl) (by rfl) rfl (fun K hK => ?_)
          go_simp
          refine hK.out _ _ ?_
          clear hK K
          try simp only [Act.put, List.setIfInBounds_toArray, List.set_cons_zero, List.set_cons_succ]
          refine wpAnyT_done (by kernel_rfl) ?_ _
          go_wp2_with fail
          go_meet
          case rel => exact ⟨_, rfl, rfl, hidI (HE.out.far (by exact GG.out) u), hidI (by exact BX.out.set u)⟩
        exact AllReadyT.nil
      exact AllReadyT.nil
    exact AllReadyT.nil
  case rest =>
    obtain ⟨q, rfl, rfl, N1, U1⟩ := hcut
    obtain ⟨p0, p1⟩ := N1.out.1.c
    obtain ⟨c0, c1, c2, c3, c4, c5, -⟩ := N1.out.2.1.c
    have e0 : staEq u u = true := staEq_iff.2 rfl
    go_wp2_with (first
      | (go_at_call 10; refine (lsteps_at _).mono ?_; rintro e w4 ⟨rfl, hb4⟩)
      | (go_at_call 9; refine (rnext_b t now order (by exact H.out.bel N1.out.2.2) G.out u n HR.out).mono ?_; rintro e w3 ⟨rfl, hb⟩; have N3 := hidI (N1.out.bel (bel_trans hb (bel_alloc w3 (.cells #[.string ⟨u.a.toArray⟩, .string ⟨u.c.toArray⟩, .int .i64 u.ph, .int .i64 u.st, .int .i64 u.we, .int .i64 u.si] 26)))); have U2 := hidI (U1.out.bel (bel_trans hb (bel_alloc w3 (.cells #[.string ⟨u.a.toArray⟩, .string ⟨u.c.toArray⟩, .int .i64 u.ph, .int .i64 u.st, .int .i64 u.we, .int .i64 u.si] 26)))); have U3 := hidI (show SBox _ _ u from heap_alloc_new w3 (.cells #[.string ⟨u.a.toArray⟩, .string ⟨u.c.toArray⟩, .int .i64 u.ph, .int .i64 u.st, .int .i64 u.we, .int .i64 u.si] 26)); clear p0 p1 c0 c1 c2 c3 c4 c5; obtain ⟨d0, d1, d2, d3, d4, d5, -⟩ := U2.out.c; obtain ⟨c0, c1, c2, c3, c4, c5, -⟩ := U3.out.c; clear hb))
    go_ret
    exact ⟨rfl, bel_trans N3.out.2.2 hb4⟩
end Go.Proofs.Ytiaaphflbkcojaa
