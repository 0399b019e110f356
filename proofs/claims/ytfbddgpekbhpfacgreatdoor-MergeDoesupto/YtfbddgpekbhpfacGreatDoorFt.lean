/- What differ of package stairwellref does. -/
import Derived.Test.YtfbddgpekbhpfacGreatDoorFn
import Derived.Test.YtfbddgpekbhpfacGreatDoorFb
import Derived.Test.YtfbddgpekbhpfacGreatDoorFs
set_option linter.unusedSimpArgs false
set_option linter.unusedVariables false
namespace Go.Proofs.YtfbddgpekbhpfacGreatDoor
open Go.RowKit

theorem run_ownS (W : World) (ok : Nat → Prop) (xs : List (List UInt8)) (v : Value) (h : StrsAre W ok xs v) (hl : xs.length ≤ 1000000) (ty : TypeId) :
    ∃ v' W', (Builtin.append_ #[22, 22] ty #[.slice none 0 0, v]).run Tryz.prog W = .ok v' W' ∧ W'.ownsRow W.heap.size 9 1 v' xs.length (xs.map str) ∧ Below W.heap.size W W' := by
  obtain ⟨i0, hi, hz0, hz1, hz2⟩ := info_parts info9
  have some_case : ∀ (ad : Addr) (c : Nat), (∀ j u, (xs.map str)[j]? = some u → W.cell? (ad.add j) = some u) →
      ∃ v' W', (Builtin.append_ #[22, 22] ty #[.slice none 0 0, .slice (some ad) xs.length c]).run Tryz.prog W = .ok v' W' ∧ W'.ownsRow W.heap.size 9 1 v' xs.length (xs.map str) ∧ Below W.heap.size W W' := by
    intro ad c hc
    obtain ⟨v', W', hr, ho, hg, -, -⟩ := run_append_own_at (P := Tryz.prog) W W.heap.size 22 ty 9 i0 _ 1 16 Tryz.underlying22 hi hz0 hz1 hz2 rfl (by decide) (.slice none 0 0) 0 [] (World.ownsRow_nil _ _ _ _) ad xs.length c (xs.map str) (by simp) hc (by intro u hu; simp only [List.mem_map] at hu; obtain ⟨x, -, rfl⟩ := hu; rfl) (by unfold maxLen; omega) (by omega) (Nat.le_refl _)
    exact ⟨v', W', hr, by simpa using ho, gb_none (by simpa [Value.ownBlock] using hg)⟩
  rcases h.2 with ⟨rfl, a, rfl⟩ | ⟨b, off, c, rfl, h1, h2, h3⟩
  · cases a with
    | none => exact ⟨_, _, run_nil_nil W ty, World.ownsRow_nil _ _ _ _, Below.refl _ _⟩
    | some ad => exact some_case ad 0 (by simp)
  · refine some_case ⟨b, off, none⟩ c ?_
    intro j u hj
    rw [addr_add]
    simp only [List.getElem?_map, Option.map_eq_some_iff] at hj
    obtain ⟨x, hx, rfl⟩ := hj
    exact (h3 j x hx).2.2
theorem run_joinS {W : World} {ok : Nat → Prop} {B n : Nat} {v0 : Value} {cs : List Value} (ho : W.ownsRow B 9 1 v0 n cs) {ys : List (List UInt8)} {v : Value} (h : StrsAre W ok ys v) (hn : n ≤ 1000000) (hl : ys.length ≤ 1000000) (hB : B ≤ W.heap.size) (ty : TypeId) :
    ∃ v' W', (Builtin.append_ #[22, 22] ty #[v0, v]).run Tryz.prog W = .ok v' W' ∧ W'.ownsRow B 9 1 v' (n + ys.length) (cs ++ ys.map str) ∧ W.grownBy W' v0.ownBlock := by
  obtain ⟨i0, hi, hz0, hz1, hz2⟩ := info_parts info9
  have some_case : ∀ (ad : Addr) (c : Nat), (∀ j u, (ys.map str)[j]? = some u → W.cell? (ad.add j) = some u) →
      ∃ v' W', (Builtin.append_ #[22, 22] ty #[v0, .slice (some ad) ys.length c]).run Tryz.prog W = .ok v' W' ∧ W'.ownsRow B 9 1 v' (n + ys.length) (cs ++ ys.map str) ∧ W.grownBy W' v0.ownBlock := by
    intro ad c hc
    obtain ⟨v', W', hr, ho, hg, -, -⟩ := run_append_own_at (P := Tryz.prog) W B 22 ty 9 i0 _ 1 16 Tryz.underlying22 hi hz0 hz1 hz2 rfl (by decide) v0 n cs ho ad ys.length c (ys.map str) (by simp) hc (by intro u hu; simp only [List.mem_map] at hu; obtain ⟨x, -, rfl⟩ := hu; rfl) (by unfold maxLen; omega) (by omega) hB
    exact ⟨v', W', hr, ho, hg⟩
  rcases h.2 with ⟨rfl, a, rfl⟩ | ⟨b, off, c, rfl, h1, h2, h3⟩
  · cases a with
    | none => exact ⟨_, _, run_append_owned_none (P := Tryz.prog) W B 22 ty 9 i0 1 Tryz.underlying22 hi v0 n cs ho, by simpa using ho, gb_refl _ _⟩
    | some ad => exact some_case ad 0 (by simp)
  · refine some_case ⟨b, off, none⟩ c ?_
    intro j u hj
    rw [addr_add]
    simp only [List.getElem?_map, Option.map_eq_some_iff] at hj
    obtain ⟨x, hx, rfl⟩ := hj
    exact (h3 j x hx).2.2
theorem strs_in {w : World} {ok : Nat → Prop} {t : V} {k n s ls : Value} {a : Option Addr} {m c : Nat} (h : In w ok t (.agg #[k, n, s, .slice a m c, ls])) : StrsAre w ok t.keys (.slice a m c) := by
  obtain ⟨d, h⟩ := h.at
  obtain ⟨ks, ls, e, -, -, -, h4, -⟩ := h
  simp only [Value.agg.injEq, Array.mk.injEq, List.cons.injEq, and_true] at e
  obtain ⟨-, -, -, rfl, rfl⟩ := e
  exact h4
theorem RM.gb0 {w W W' : World} {ok : Nat → Prop} {v p : V} {a1 a2 a3 a4 : Option Addr} {c1 c2 c3 c4 : Nat} {r : Option Nat} (h : RM w ok v p a1 a2 a3 a4 c1 c2 c3 c4 objT none none 0 0 W) (hg : W.grownBy W' r) (hr : ∀ g, r = some g → w.heap.size + 4 ≤ g) : RM w ok v p a1 a2 a3 a4 c1 c2 c3 c4 objT none none 0 0 W' :=
  ⟨h.1.grown hg (fun e => by have := hr _ e.symm; omega), h.2.1.grown hg (fun e => by have := hr _ e.symm; omega), h.2.2.1.grown hg (fun e => by have := hr _ e.symm; omega), h.2.2.2.1.grown hg (fun e => by have := hr _ e.symm; omega), gb_far h.2.2.2.2.1 hg (fun g e => by have := hr g e; omega), in_leaf _ _ 5 0 (by unfold I64; omega) (by unfold I64; omega), Nat.le_trans h.2.2.2.2.2.2 hg.size⟩
theorem strs_put {w W : World} {xs : List (List UInt8)} {kv d0 d1 d2 d3 d4 : Value} (h : StrsAre W (fun j => w.heap.size + 4 ≤ j) xs kv) : StrsAre (set5 W (w.heap.size + 3) d0 d1 d2 d3 d4) (fun j => w.heap.size + 4 ≤ j) xs kv :=
  h.imp (cells_grown (set5_gb W (w.heap.size + 3) d0 d1 d2 d3 d4) (fun k hk e => by simp at e; omega))
def ROtC (E : Nat) : Prop := ∀ (w : World) (ok : Nat → Prop) (a b : V) (va vb : Value), In w ok a va → In w ok b vb → Nice a → Nice b → Dep E b →
  Calls Tryz.prog 18 #[va, vb] w fun e w' => ∃ r, e = .returned r ∧ Below w.heap.size w w' ∧ In w' (okN ok w.heap.size) (diffF E a b) r
def RD (w : World) (ok : Nat → Prop) (E : Nat) (a b : V) (a1 a2 a3 a4 : Option Addr) (c1 c2 c3 c4 : Nat) (ka : Option Addr) (kc k : Nat) (wr : World) : Prop :=
  ∃ y b1 b2 e1 e2, y = ((a.keys ++ b.keys).take k).foldl (stepF (diffF E) a b) objT ∧ RM w ok a b a1 a2 a3 a4 c1 c2 c3 c4 y b1 b2 e1 e2 wr ∧ StrsAre wr (fun j => w.heap.size + 4 ≤ j) (a.keys ++ b.keys) (.slice ka (a.keys.length + b.keys.length) kc)

attribute [local go_sem ↓] Go.wp_at_zero Go.wp_at_succ
open Classical in
set_option maxRecDepth 100000 in
set_option maxHeartbeats 8000000 in
theorem rother_succ (E : Nat) (ih : ROtC E) : ROtC (E + 1) := by
  intro w ok a b va vb h hp na nb hd
  have Ha := hidI h.low
  have Hb := hidI hp.low
  have NA := hidI na
  have NB := hidI nb
  have HD := hidI hd
  have IH := hidI ih
  obtain ⟨l1, l2, l3⟩ := h.lens
  obtain ⟨l4, l5, l6⟩ := hp.lens
  obtain ⟨a1, a2, c1, c2, rfl⟩ := h.form
  obtain ⟨a3, a4, c3, c4, rfl⟩ := hp.form
  have Ka : Hid (StrsAre w (fun k => ok k ∧ k < w.heap.size) a.keys (.slice a1 a.keys.length c1)) := hidI (strs_in Ha.out)
  have Kb : Hid (StrsAre w (fun k => ok k ∧ k < w.heap.size) b.keys (.slice a3 b.keys.length c3)) := hidI (strs_in Hb.out)
  clear h hp ih na nb hd
  by_cases hk : a.kind = 5 ∧ b.kind = 5
  · obtain ⟨hk1, hk2⟩ := hk
    have e0 : (a.kind != 5) = false := by rw [hk1]; rfl
    have e00 : (b.kind != 5) = false := by rw [hk2]; rfl
    have OA : Hid (Ob a) := hidI (nice_ob NA.out hk1)
    have OB : Hid (Ob b) := hidI (nice_ob NB.out hk2)
    have HM : Hid ((a.keys ++ b.keys).foldl (stepF (diffF E) a b) objT = diffF (E + 1) a b) := hidI (rdiff_eq OA.out OB.out)
    have LA : Hid (a.keys.length ≤ 120) := hidI (by have := nice_len NA.out; have := OA.out.2.2.2.1; omega)
    have LB : Hid (b.keys.length ≤ 120) := hidI (by have := nice_len NB.out; have := OB.out.2.2.2.1; omega)
    have la : a.keys.length ≤ 120 := LA.out
    have lb : b.keys.length ≤ 120 := LB.out
    clear hk1 hk2
    have ST : Hid (RM w ok a b a1 a2 a3 a4 c1 c2 c3 c4 objT none none 0 0 _) := hidI RM.start
    obtain ⟨s0, s1, s2, s3, s4, -⟩ := ST.out.1.c
    obtain ⟨t0, t1, t2, t3, t4, -⟩ := ST.out.2.1.c
    go_enter Tryz.func18, Tryz.ntmps18
    go_upto_region 4 with fail
    refine wp_region_T (fun wS => RM w ok a b a1 a2 a3 a4 c1 c2 c3 c4 objT none none 0 0 wS) [] (by kernel_rfl) (ST.out.bel (bel_drewN _ 1)) (fun hHeld => ?_)
    refine wpAnyT_take (i := 0) (v := ?_) [] (oi := { dst := some 22, op := Go.Op.fieldAddr 25 (Go.Operand.tmp 2) 3, type := 0, pos := "high.go:185", after := #[], guard := none }) rfl (by kernel_rfl) (by kernel_rfl) (by kernel_rfl) (by kernel_rfl) (fun _ _ _ h => h) (Or.inl ⟨by rfl, ?_⟩) hHeld ?_
    rotate_left
    · intro wS hSw
      go_simp
      all_goals with_reducible rfl
    simp only [Act.put, List.setIfInBounds_toArray, List.set_cons_zero, List.set_cons_succ]
    refine wpAnyT_take (i := 1) (v := ?_) [] (oi := { dst := some 23, op := Go.Op.load 22 (Go.Operand.tmp 22), type := 22, pos := "high.go:185", after := #[{ on := 0, ground := Go.Ground.data }], guard := none }) rfl (by kernel_rfl) (by kernel_rfl) (by kernel_rfl) (by kernel_rfl) (fun _ _ _ h => h) (Or.inl ⟨by rfl, ?_⟩) hHeld ?_
    rotate_left
    · intro wS hSw
      obtain ⟨v0, v1, v2, v3, v4, -⟩ := hSw.1.c
      obtain ⟨p0, p1, p2, p3, p4, -⟩ := hSw.2.1.c
      go_simp
      all_goals with_reducible rfl
    simp only [Act.put, List.setIfInBounds_toArray, List.set_cons_zero, List.set_cons_succ]
    refine wpAnyT_take (i := 3) (v := ?_) [] (oi := { dst := some 25, op := Go.Op.fieldAddr 25 (Go.Operand.tmp 3) 3, type := 0, pos := "high.go:185", after := #[], guard := none }) rfl (by kernel_rfl) (by kernel_rfl) (by kernel_rfl) (by kernel_rfl) (fun _ _ _ h => h) (Or.inl ⟨by rfl, ?_⟩) hHeld ?_
    rotate_left
    · intro wS hSw
      go_simp
      all_goals with_reducible rfl
    simp only [Act.put, List.setIfInBounds_toArray, List.set_cons_zero, List.set_cons_succ]
    refine wpAnyT_take (i := 4) (v := ?_) [] (oi := { dst := some 26, op := Go.Op.load 22 (Go.Operand.tmp 25), type := 22, pos := "high.go:185", after := #[{ on := 3, ground := Go.Ground.data }], guard := none }) rfl (by kernel_rfl) (by kernel_rfl) (by kernel_rfl) (by kernel_rfl) (fun _ _ _ h => h) (Or.inl ⟨by rfl, ?_⟩) hHeld ?_
    rotate_left
    · intro wS hSw
      obtain ⟨v0, v1, v2, v3, v4, -⟩ := hSw.1.c
      obtain ⟨p0, p1, p2, p3, p4, -⟩ := hSw.2.1.c
      go_simp
      all_goals with_reducible rfl
    simp only [Act.put, List.setIfInBounds_toArray, List.set_cons_zero, List.set_cons_succ]
    refine wpAnyT_take (i := 7) (v := ?_) [] (oi := { dst := some 29, op := Go.Op.move (Go.Operand.const (Go.Value.int Go.IntKind.i64 0)), type := 3, pos := "high.go:185", after := #[], guard := none }) rfl (by kernel_rfl) (by kernel_rfl) (by kernel_rfl) (by kernel_rfl) (fun _ _ _ h => h) (Or.inl ⟨by rfl, ?_⟩) hHeld ?_
    rotate_left
    · intro wS hSw
      go_simp
      all_goals with_reducible rfl
    simp only [Act.put, List.setIfInBounds_toArray, List.set_cons_zero, List.set_cons_succ]
    refine wpAnyT_ready (rs := [2]) (by kernel_rfl) (by simp) ?_
    refine AllReadyT.cons (i := 2) (o := { dst := some 24, op := Go.Op.call { callee := Go.Callee.builtin Go.Builtin.append, args := #[Go.Operand.const (Go.Value.slice none 0 0), Go.Operand.tmp 23], argTypes := #[22, 22] }, type := 22, pos := "high.go:185", after := #[{ on := 1, ground := Go.Ground.data }], guard := none }) rfl (fun K hK => ?_) ?_
    · have SA := hidI (Ka.out.bel hHeld.2.2.2.2.1)
      refine step_run (by rfl) (.const (.slice none 0 0)) (.tmp 23) 22 (by rfl) _ _ rfl rfl _ (fun ty => run_ownS _ _ a.keys _ SA.out (by omega) ty) (fun v9 W9 hR => ?_)
      obtain ⟨hown, hb9⟩ := hR
      have OW := hidI hown
      have HS9 := hidI hHeld.2.2.2.2.2.2
      refine hK.out _ _ (hHeld.bel hb9) (fun hHeld2 => ?_)
      have SZ := hidI hb9.size
      clear hown hb9
      clear hK K
      replace hHeld := hHeld2
      clear hHeld2
      try simp only [Act.put, List.setIfInBounds_toArray, List.set_cons_zero, List.set_cons_succ]
      refine wpAnyT_ready (rs := [5]) (by kernel_rfl) (by simp) ?_
      refine AllReadyT.cons (i := 5) (o := { dst := some 27, op := Go.Op.call { callee := Go.Callee.builtin Go.Builtin.append, args := #[Go.Operand.tmp 24, Go.Operand.tmp 26], argTypes := #[22, 22] }, type := 22, pos := "high.go:185", after := #[{ on := 2, ground := Go.Ground.data }, { on := 4, ground := Go.Ground.data }, { on := 2, ground := Go.Ground.chain }], guard := none }) rfl (fun K hK => ?_) ?_
      · have SB := hidI (Kb.out.bel hHeld.2.2.2.2.1)
        refine step_run (by rfl) (.tmp 24) (.tmp 26) 22 (by rfl) _ _ rfl rfl _ (fun ty => run_joinS OW.out SB.out (by omega) (by omega) (by exact SZ.out) ty) (fun v8 W8 hR => ?_)
        obtain ⟨hown, hg8⟩ := hR
        have OW2 := hidI hown
        refine hK.out _ _ (hHeld.gb0 hg8 (fun g e => Nat.le_trans HS9.out ((OW.out.lt g e).1))) (fun hHeld2 => ?_)
        obtain ⟨ka, kc, rfl⟩ := own_form hown
        clear hown hg8
        clear hK K
        replace hHeld := hHeld2
        clear hHeld2
        try simp only [Act.put, List.setIfInBounds_toArray, List.set_cons_zero, List.set_cons_succ]
        refine wpAnyT_take (i := 6) (v := ?_) [] (oi := { dst := some 28, op := Go.Op.call { callee := Go.Callee.builtin Go.Builtin.len, args := #[Go.Operand.tmp 27], argTypes := #[22] }, type := 3, pos := "high.go:185", after := #[{ on := 5, ground := Go.Ground.data }], guard := none }) rfl (by kernel_rfl) (by kernel_rfl) (by kernel_rfl) (by kernel_rfl) (fun _ _ _ h => h) (Or.inl ⟨by rfl, ?_⟩) hHeld ?_
        rotate_left
        · intro wS hSw
          go_simp
          all_goals with_reducible rfl
        simp only [Act.put, List.setIfInBounds_toArray, List.set_cons_zero, List.set_cons_succ]
        refine wpAnyT_done (by kernel_rfl) ?_ _
        have I0 : Hid _ := hidI hHeld
        clear hHeld
        have KS : Hid (StrsAre W8 (fun j => w.heap.size + 4 ≤ j) (a.keys ++ b.keys) (.slice ka (a.keys.length + b.keys.length) kc)) := hidI (own_strs (n := a.keys.length + b.keys.length) (by simp) (by rw [List.map_append]; exact OW2.out) (fun z hz => (List.mem_append.1 hz).elim (fun h => Ka.out.mem z h) (fun h => Kb.out.mem z h)) (fun j hj => Nat.le_trans HS9.out hj) (by simp only [List.length_append]; unfold maxLen; omega))
        clear OW OW2 SA SB SZ HS9
        go_wp2_with fail
        go_loopg [29] (a.keys.length + b.keys.length) (fun gk i wr => ∃ k : Nat, k ≤ a.keys.length + b.keys.length ∧ gk = a.keys.length + b.keys.length - k ∧ i = .int .i64 k ∧ RD w ok E a b a1 a2 a3 a4 c1 c2 c3 c4 ka kc k wr)
        case atStart => exact ⟨0, Nat.zero_le _, rfl, rfl, objT, none, none, 0, 0, rfl, I0.out, KS.out⟩
        case round =>
          clear s0 s1 s2 s3 s4 t0 t1 t2 t3 t4 ST I0 KS
          obtain ⟨k, hk, hgk, rfl, y, b1, b2, e1', e2', hy, hI, hks⟩ := hrel
          have GK := hidI hgk
          have I := hidI hI
          have HY := hidI hy
          have KS := hidI hks
          clear hgk hI hy hks
          obtain ⟨s0, s1, s2, s3, s4, -⟩ := I.out.1.c
          obtain ⟨t0, t1, t2, t3, t4, -⟩ := I.out.2.1.c
          by_cases hlt : k < a.keys.length + b.keys.length
          · have hlt' : k < (a.keys ++ b.keys).length := by simpa using hlt
            obtain ⟨kb, ko, rfl, j1, j2, jk⟩ := strs_at KS.out hlt'
            unfold maxLen at j2
            have jl : ((a.keys ++ b.keys)[k]).length ≤ 9223372036854775807 := by
              rcases List.mem_append.1 (List.getElem_mem hlt') with h | h
              · exact Ka.out.mem _ h
              · exact Kb.out.mem _ h
            have w1 : (0 : Int) ≤ (k : Int) := by omega
            have w3 : (k : Int) < ((a.keys.length + b.keys.length : Nat) : Int) := by omega
            have w4 : (k : Int) < (a.keys.length : Int) + (b.keys.length : Int) := by omega
            have OY : Hid (Ob y) := hidI (by rw [HY.out]; exact foldF_ob _ a b _ _ ob_objT)
            have LY : Hid (y.l.length ≤ 240) := hidI (by
              rw [HY.out]
              have h1 := foldF_len (diffF E) a b ((a.keys ++ b.keys).take k) objT
              have h2 : ((a.keys ++ b.keys).take k).length ≤ a.keys.length + b.keys.length := by rw [List.length_take, List.length_append]; omega
              have h3 : objT.l.length = 0 := rfl
              have := LA.out
              have := LB.out
              omega)
            have SF : Hid (∀ u, u = stepF (diffF E) a b y (a.keys ++ b.keys)[k] → u = ((a.keys ++ b.keys).take (k + 1)).foldl (stepF (diffF E) a b) objT) := hidI (by
              intro u hu
              rw [hu, HY.out, List.take_add_one, List.getElem?_eq_getElem hlt', List.foldl_append]; rfl)
            go_wp2_with fail
            refine (rmember_is _ (fun k => ok k ∧ k < w.heap.size) a _ (a.keys ++ b.keys)[k] (by exact Ha.out.bel I.out.2.2.2.2.1)).mono ?_
            rintro e w4 ⟨r, rfl, hb4, hr⟩
            obtain ⟨x, hx⟩ : ∃ x, (memV a (a.keys ++ b.keys)[k]).getD zeroT = x := ⟨_, rfl⟩
            rw [hx] at hr
            obtain ⟨g3, g4, h3, h4, rfl⟩ := hr.form
            have hbb := bel_trans hb4 (bel_alloc w4 (.cells #[.int .i64 x.kind, .int .i64 x.n, .string ⟨x.s.toArray⟩, .slice g3 x.keys.length h3, .slice g4 x.l.length h4] 25))
            have K := hidI (I.out.bel hbb)
            have KX : Hid (BoxIs (w4.alloc (.cells #[.int .i64 x.kind, .int .i64 x.n, .string ⟨x.s.toArray⟩, .slice g3 x.keys.length h3, .slice g4 x.l.length h4] 25)) w4.heap.size (.int .i64 x.kind) (.int .i64 x.n) (.string ⟨x.s.toArray⟩) (.slice g3 x.keys.length h3) (.slice g4 x.l.length h4) ∧ In (w4.alloc (.cells #[.int .i64 x.kind, .int .i64 x.n, .string ⟨x.s.toArray⟩, .slice g3 x.keys.length h3, .slice g4 x.l.length h4] 25)) (lowN ok w.heap.size (w.heap.size + 4)) x (.agg #[.int .i64 x.kind, .int .i64 x.n, .string ⟨x.s.toArray⟩, .slice g3 x.keys.length h3, .slice g4 x.l.length h4])) := hidI ⟨heap_alloc_new w4 _, (hr.bel (bel_alloc _ _)).weak lowN_low⟩
            have KS4 := hidI (KS.out.bel hbb)
            have NX : Hid (Nice x) := hidI (by rw [← hx]; exact nice_old NA.out _)
            have HX := hidI hx
            clear hx hr hb4 hbb s0 s1 s2 s3 s4 t0 t1 t2 t3 t4 jk KS
            obtain ⟨t0, t1, t2, t3, t4, -⟩ := K.out.2.1.c
            go_wp2_with fail
            refine (rmember_is _ (fun k => ok k ∧ k < w.heap.size) b _ (a.keys ++ b.keys)[k] (by exact Hb.out.bel K.out.2.2.2.2.1)).mono ?_
            rintro e w5 ⟨r, rfl, hb5, hr⟩
            obtain ⟨q, hq⟩ : ∃ q, (memV b (a.keys ++ b.keys)[k]).getD zeroT = q := ⟨_, rfl⟩
            rw [hq] at hr
            obtain ⟨g5, g6, h5, h6, rfl⟩ := hr.form
            have hbb := bel_trans hb5 (bel_alloc w5 (.cells #[.int .i64 q.kind, .int .i64 q.n, .string ⟨q.s.toArray⟩, .slice g5 q.keys.length h5, .slice g6 q.l.length h6] 25))
            have M : Hid (RM w ok a b a1 a2 a3 a4 c1 c2 c3 c4 y b1 b2 e1' e2' (w5.alloc (.cells #[.int .i64 q.kind, .int .i64 q.n, .string ⟨q.s.toArray⟩, .slice g5 q.keys.length h5, .slice g6 q.l.length h6] 25)) ∧ BoxIs (w5.alloc (.cells #[.int .i64 q.kind, .int .i64 q.n, .string ⟨q.s.toArray⟩, .slice g5 q.keys.length h5, .slice g6 q.l.length h6] 25)) w4.heap.size (.int .i64 x.kind) (.int .i64 x.n) (.string ⟨x.s.toArray⟩) (.slice g3 x.keys.length h3) (.slice g4 x.l.length h4) ∧ BoxIs (w5.alloc (.cells #[.int .i64 q.kind, .int .i64 q.n, .string ⟨q.s.toArray⟩, .slice g5 q.keys.length h5, .slice g6 q.l.length h6] 25)) w5.heap.size (.int .i64 q.kind) (.int .i64 q.n) (.string ⟨q.s.toArray⟩) (.slice g5 q.keys.length h5) (.slice g6 q.l.length h6) ∧ In (w5.alloc (.cells #[.int .i64 q.kind, .int .i64 q.n, .string ⟨q.s.toArray⟩, .slice g5 q.keys.length h5, .slice g6 q.l.length h6] 25)) (lowN ok w.heap.size (w.heap.size + 4)) x (.agg #[.int .i64 x.kind, .int .i64 x.n, .string ⟨x.s.toArray⟩, .slice g3 x.keys.length h3, .slice g4 x.l.length h4]) ∧ In (w5.alloc (.cells #[.int .i64 q.kind, .int .i64 q.n, .string ⟨q.s.toArray⟩, .slice g5 q.keys.length h5, .slice g6 q.l.length h6] 25)) (lowN ok w.heap.size (w.heap.size + 4)) q (.agg #[.int .i64 q.kind, .int .i64 q.n, .string ⟨q.s.toArray⟩, .slice g5 q.keys.length h5, .slice g6 q.l.length h6])) := hidI ⟨K.out.bel hbb, box_bel hbb KX.out.1, heap_alloc_new w5 _, KX.out.2.bel hbb, (hr.bel (bel_alloc _ _)).weak lowN_low⟩
            have KS := hidI (KS4.out.bel hbb)
            have NQ : Hid (Nice q) := hidI (by rw [← hq]; exact nice_old NB.out _)
            have HQ := hidI hq
            clear hq hr hb5 hbb t0 t1 t2 t3 t4 K KX KS4
            obtain ⟨o0, o1, o2, o3, o4, f0, f1, f2, f3, f4⟩ := M.out.1.2.2.2.1.c
            cases hmb : memV b (a.keys ++ b.keys)[k] with
            | none =>
              have HMB := hidI hmb
              have eb : (memV b (a.keys ++ b.keys)[k]).isSome = false := by rw [hmb]; rfl
              have FIN : Hid (∀ u, u = withV y (a.keys ++ b.keys)[k] zeroT → ∀ (W : World) (g1 g2 : Option Addr) (h1 h2 : Nat), RM w ok a b a1 a2 a3 a4 c1 c2 c3 c4 y b1 b2 e1' e2' W → In W (lowN ok w.heap.size (w.heap.size + 4)) u (.agg #[.int .i64 u.kind, .int .i64 u.n, .string ⟨u.s.toArray⟩, .slice g1 u.keys.length h1, .slice g2 u.l.length h2]) → StrsAre W (fun j => w.heap.size + 4 ≤ j) (a.keys ++ b.keys) (.slice (some ⟨kb, ko, none⟩) (a.keys.length + b.keys.length) kc) → RD w ok E a b a1 a2 a3 a4 c1 c2 c3 c4 (some ⟨kb, ko, none⟩) kc (k + 1) (set5 W (w.heap.size + 3) (.int .i64 u.kind) (.int .i64 u.n) (.string ⟨u.s.toArray⟩) (.slice g1 u.keys.length h1) (.slice g2 u.l.length h2))) := hidI (by
                intro u hu W g1 g2 h1 h2 hW hI hS
                exact ⟨u, g1, g2, h1, h2, SF.out u (by rw [hu, stepF, HMB.out]), hW.put hI, strs_put hS⟩)
              clear hmb
              go_wp2_with fail
              refine (rwith_is _ (lowN ok w.heap.size (w.heap.size + 4)) y zeroT _ _ (a.keys ++ b.keys)[k] (by exact M.out.1.2.2.2.2.2.1) (by exact in_zero _ _) OY.out (by have := LY.out; omega) jl).mono ?_
              rintro e w6 ⟨r, rfl, hr, hb⟩
              obtain ⟨u, hu⟩ : ∃ u, withV y (a.keys ++ b.keys)[k] zeroT = u := ⟨_, rfl⟩
              rw [hu] at hr
              obtain ⟨g1, g2, h1, h2, rfl⟩ := hr.form
              have F : Hid _ := hidI (FIN.out u hu.symm w6 g1 g2 h1 h2 (M.out.1.bel hb) (hr.weak (lowN_up M.out.1.2.2.2.2.2.2)) (KS.out.bel hb))
              have O6 := hidI (box_bel hb M.out.1.2.2.2.1)
              clear hu hr hb o0 o1 o2 o3 o4 f0 f1 f2 f3 f4
              obtain ⟨o0, o1, o2, o3, o4, f0, f1, f2, f3, f4⟩ := O6.out.c
              go_wp2_with fail
              go_roundg (a.keys.length + b.keys.length - (k + 1))
              case measure => rw [GK.out]; omega
              case rel => exact ⟨k + 1, hlt, rfl, by go_num, F.out⟩
            | some yy =>
              have HMB := hidI hmb
              have eb : (memV b (a.keys ++ b.keys)[k]).isSome = true := by rw [hmb]; rfl
              have QE : Hid (q = yy) := hidI (by rw [← HQ.out, hmb]; rfl)
              have DQ : Hid (Dep E q) := hidI (by rw [QE.out]; exact HD.out _ (mem_in hmb))
              clear hmb
              cases hma : memV a (a.keys ++ b.keys)[k] with
              | none =>
                have HMA := hidI hma
                have ea : (memV a (a.keys ++ b.keys)[k]).isSome = false := by rw [hma]; rfl
                have FIN : Hid (∀ u, u = withV y (a.keys ++ b.keys)[k] q → ∀ (W : World) (g1 g2 : Option Addr) (h1 h2 : Nat), RM w ok a b a1 a2 a3 a4 c1 c2 c3 c4 y b1 b2 e1' e2' W → In W (lowN ok w.heap.size (w.heap.size + 4)) u (.agg #[.int .i64 u.kind, .int .i64 u.n, .string ⟨u.s.toArray⟩, .slice g1 u.keys.length h1, .slice g2 u.l.length h2]) → StrsAre W (fun j => w.heap.size + 4 ≤ j) (a.keys ++ b.keys) (.slice (some ⟨kb, ko, none⟩) (a.keys.length + b.keys.length) kc) → RD w ok E a b a1 a2 a3 a4 c1 c2 c3 c4 (some ⟨kb, ko, none⟩) kc (k + 1) (set5 W (w.heap.size + 3) (.int .i64 u.kind) (.int .i64 u.n) (.string ⟨u.s.toArray⟩) (.slice g1 u.keys.length h1) (.slice g2 u.l.length h2))) := hidI (by
                  intro u hu W g1 g2 h1 h2 hW hI hS
                  exact ⟨u, g1, g2, h1, h2, SF.out u (by rw [hu, stepF, HMB.out, HMA.out, QE.out]), hW.put hI, strs_put hS⟩)
                clear hma
                obtain ⟨q0, q1, q2, q3, q4, -⟩ := M.out.2.2.1.c
                go_wp2_with fail
                refine (rwith_is _ (lowN ok w.heap.size (w.heap.size + 4)) y q _ _ (a.keys ++ b.keys)[k] (by exact M.out.1.2.2.2.2.2.1) (by exact M.out.2.2.2.2) OY.out (by have := LY.out; omega) jl).mono ?_
                rintro e w6 ⟨r, rfl, hr, hb⟩
                obtain ⟨u, hu⟩ : ∃ u, withV y (a.keys ++ b.keys)[k] q = u := ⟨_, rfl⟩
                rw [hu] at hr
                obtain ⟨g1, g2, h1, h2, rfl⟩ := hr.form
                have F : Hid _ := hidI (FIN.out u hu.symm w6 g1 g2 h1 h2 (M.out.1.bel hb) (hr.weak (lowN_up M.out.1.2.2.2.2.2.2)) (KS.out.bel hb))
                have O6 := hidI (box_bel hb M.out.1.2.2.2.1)
                clear hu hr hb o0 o1 o2 o3 o4 f0 f1 f2 f3 f4 q0 q1 q2 q3 q4
                obtain ⟨o0, o1, o2, o3, o4, f0, f1, f2, f3, f4⟩ := O6.out.c
                go_wp2_with fail
                go_roundg (a.keys.length + b.keys.length - (k + 1))
                case measure => rw [GK.out]; omega
                case rel => exact ⟨k + 1, hlt, rfl, by go_num, F.out⟩
              | some xx =>
                have HMA := hidI hma
                have ea : (memV a (a.keys ++ b.keys)[k]).isSome = true := by rw [hma]; rfl
                have XE : Hid (x = xx) := hidI (by rw [← HX.out, hma]; rfl)
                clear hma
                obtain ⟨q0, q1, q2, q3, q4, -⟩ := M.out.2.2.1.c
                obtain ⟨x0, x1, x2, x3, x4, -⟩ := M.out.2.1.c
                go_wp2_with fail
                refine (rsame_is _ (lowN ok w.heap.size (w.heap.size + 4)) (lowN ok w.heap.size (w.heap.size + 4)) x q _ _ (by exact M.out.2.2.2.1) (by exact M.out.2.2.2.2)).mono ?_
                rintro e w6 ⟨rfl, hb⟩
                have M6 : Hid (RM w ok a b a1 a2 a3 a4 c1 c2 c3 c4 y b1 b2 e1' e2' w6 ∧ BoxIs w6 w4.heap.size (.int .i64 x.kind) (.int .i64 x.n) (.string ⟨x.s.toArray⟩) (.slice g3 x.keys.length h3) (.slice g4 x.l.length h4) ∧ BoxIs w6 w5.heap.size (.int .i64 q.kind) (.int .i64 q.n) (.string ⟨q.s.toArray⟩) (.slice g5 q.keys.length h5) (.slice g6 q.l.length h6) ∧ In w6 (lowN ok w.heap.size (w.heap.size + 4)) x (.agg #[.int .i64 x.kind, .int .i64 x.n, .string ⟨x.s.toArray⟩, .slice g3 x.keys.length h3, .slice g4 x.l.length h4]) ∧ In w6 (lowN ok w.heap.size (w.heap.size + 4)) q (.agg #[.int .i64 q.kind, .int .i64 q.n, .string ⟨q.s.toArray⟩, .slice g5 q.keys.length h5, .slice g6 q.l.length h6])) := hidI ⟨M.out.1.bel hb, box_bel hb M.out.2.1, box_bel hb M.out.2.2.1, M.out.2.2.2.1.bel hb, M.out.2.2.2.2.bel hb⟩
                replace KS := hidI (KS.out.bel hb)
                clear hb M o0 o1 o2 o3 o4 f0 f1 f2 f3 f4 q0 q1 q2 q3 q4 x0 x1 x2 x3 x4
                by_cases hxq : x = q
                · have FIN : Hid (RD w ok E a b a1 a2 a3 a4 c1 c2 c3 c4 (some ⟨kb, ko, none⟩) kc (k + 1) w6) := hidI ⟨y, b1, b2, e1', e2', SF.out y (by rw [stepF, HMB.out, HMA.out]; simp only; rw [if_pos (by rw [← XE.out, ← QE.out]; exact hxq)]), M6.out.1, KS.out⟩
                  have ed : decide (x = q) = true := decide_eq_true hxq
                  rw [ed]
                  clear hxq ed
                  go_wp2_with fail
                  go_roundg (a.keys.length + b.keys.length - (k + 1))
                  case measure => rw [GK.out]; omega
                  case rel => exact ⟨k + 1, hlt, rfl, by go_num, FIN.out⟩
                · have FIN : Hid (∀ z u, diffF E x q = z → u = withV y (a.keys ++ b.keys)[k] z → ∀ (W : World) (g1 g2 : Option Addr) (h1 h2 : Nat), RM w ok a b a1 a2 a3 a4 c1 c2 c3 c4 y b1 b2 e1' e2' W → In W (lowN ok w.heap.size (w.heap.size + 4)) u (.agg #[.int .i64 u.kind, .int .i64 u.n, .string ⟨u.s.toArray⟩, .slice g1 u.keys.length h1, .slice g2 u.l.length h2]) → StrsAre W (fun j => w.heap.size + 4 ≤ j) (a.keys ++ b.keys) (.slice (some ⟨kb, ko, none⟩) (a.keys.length + b.keys.length) kc) → RD w ok E a b a1 a2 a3 a4 c1 c2 c3 c4 (some ⟨kb, ko, none⟩) kc (k + 1) (set5 W (w.heap.size + 3) (.int .i64 u.kind) (.int .i64 u.n) (.string ⟨u.s.toArray⟩) (.slice g1 u.keys.length h1) (.slice g2 u.l.length h2))) := hidI (by
                    intro z u hz hu W g1 g2 h1 h2 hW hI hS
                    exact ⟨u, g1, g2, h1, h2, SF.out u (by rw [hu, ← hz, stepF, HMB.out, HMA.out]; simp only; rw [if_neg (by rw [← XE.out, ← QE.out]; exact hxq), XE.out, QE.out]), hW.put hI, strs_put hS⟩)
                  have ed : decide (x = q) = false := decide_eq_false hxq
                  rw [ed]
                  clear hxq ed
                  go_upto_region 14 with fail
                  refine wp_region_T (fun wS => RM w ok a b a1 a2 a3 a4 c1 c2 c3 c4 y b1 b2 e1' e2' wS ∧ BoxIs wS w4.heap.size (.int .i64 x.kind) (.int .i64 x.n) (.string ⟨x.s.toArray⟩) (.slice g3 x.keys.length h3) (.slice g4 x.l.length h4) ∧ BoxIs wS w5.heap.size (.int .i64 q.kind) (.int .i64 q.n) (.string ⟨q.s.toArray⟩) (.slice g5 q.keys.length h5) (.slice g6 q.l.length h6) ∧ In wS (lowN ok w.heap.size (w.heap.size + 4)) x (.agg #[.int .i64 x.kind, .int .i64 x.n, .string ⟨x.s.toArray⟩, .slice g3 x.keys.length h3, .slice g4 x.l.length h4]) ∧ In wS (lowN ok w.heap.size (w.heap.size + 4)) q (.agg #[.int .i64 q.kind, .int .i64 q.n, .string ⟨q.s.toArray⟩, .slice g5 q.keys.length h5, .slice g6 q.l.length h6])) [6] (by kernel_rfl) ⟨M6.out.1.bel (bel_drewN _ 1), box_bel (bel_drewN _ 1) M6.out.2.1, box_bel (bel_drewN _ 1) M6.out.2.2.1, M6.out.2.2.2.1.bel (bel_drewN _ 1), M6.out.2.2.2.2.bel (bel_drewN _ 1)⟩ (fun hHeld => ?_)
                  replace KS := hidI (KS.out.bel (bel_drewN _ 1))
                  refine wpAnyT_take (i := 0) (v := ?_) [5, 6] (oi := { dst := some 64, op := Go.Op.load 25 (Go.Operand.tmp 5), type := 25, pos := "high.go:194", after := #[], guard := none }) rfl (by kernel_rfl) (by kernel_rfl) (by kernel_rfl) (by kernel_rfl) (fun _ _ _ h => h) (Or.inl ⟨by rfl, ?_⟩) hHeld ?_
                  rotate_left
                  · intro wS hSw
                    obtain ⟨y0, y1, y2, y3, y4, -⟩ := hSw.1.2.2.2.1.c
                    obtain ⟨x0, x1, x2, x3, x4, -⟩ := hSw.2.1.c
                    obtain ⟨q0, q1, q2, q3, q4, -⟩ := hSw.2.2.1.c
                    go_simp
                    all_goals with_reducible rfl
                  simp only [Act.put, List.setIfInBounds_toArray, List.set_cons_zero, List.set_cons_succ]
                  refine wpAnyT_take (i := 1) (v := ?_) [5, 6] (oi := { dst := some 65, op := Go.Op.move (Go.Operand.tmp 7), type := 9, pos := "high.go:194", after := #[], guard := none }) rfl (by kernel_rfl) (by kernel_rfl) (by kernel_rfl) (by kernel_rfl) (fun _ _ _ h => h) (Or.inl ⟨by rfl, ?_⟩) hHeld ?_
                  rotate_left
                  · intro wS hSw
                    go_simp
                    all_goals with_reducible rfl
                  simp only [Act.put, List.setIfInBounds_toArray, List.set_cons_zero, List.set_cons_succ]
                  refine wpAnyT_take (i := 2) (v := ?_) [4, 5, 6] (oi := { dst := some 66, op := Go.Op.load 25 (Go.Operand.tmp 8), type := 25, pos := "high.go:194", after := #[], guard := none }) rfl (by kernel_rfl) (by kernel_rfl) (by kernel_rfl) (by kernel_rfl) (fun _ _ _ h => h) (Or.inl ⟨by rfl, ?_⟩) hHeld ?_
                  rotate_left
                  · intro wS hSw
                    obtain ⟨y0, y1, y2, y3, y4, -⟩ := hSw.1.2.2.2.1.c
                    obtain ⟨x0, x1, x2, x3, x4, -⟩ := hSw.2.1.c
                    obtain ⟨q0, q1, q2, q3, q4, -⟩ := hSw.2.2.1.c
                    go_simp
                    all_goals with_reducible rfl
                  simp only [Act.put, List.setIfInBounds_toArray, List.set_cons_zero, List.set_cons_succ]
                  refine wpAnyT_take (i := 3) (v := ?_) [4, 5, 6] (oi := { dst := some 67, op := Go.Op.load 25 (Go.Operand.tmp 10), type := 25, pos := "high.go:194", after := #[], guard := none }) rfl (by kernel_rfl) (by kernel_rfl) (by kernel_rfl) (by kernel_rfl) (fun _ _ _ h => h) (Or.inl ⟨by rfl, ?_⟩) hHeld ?_
                  rotate_left
                  · intro wS hSw
                    obtain ⟨y0, y1, y2, y3, y4, -⟩ := hSw.1.2.2.2.1.c
                    obtain ⟨x0, x1, x2, x3, x4, -⟩ := hSw.2.1.c
                    obtain ⟨q0, q1, q2, q3, q4, -⟩ := hSw.2.2.1.c
                    go_simp
                    all_goals with_reducible rfl
                  simp only [Act.put, List.setIfInBounds_toArray, List.set_cons_zero, List.set_cons_succ]
                  refine wpAnyT_ready (rs := [4]) (by kernel_rfl) (by simp) ?_
                  refine AllReadyT.cons (i := 4) (o := { dst := some 68, op := Go.Op.call { callee := Go.Callee.value (Go.Operand.func 18), args := #[Go.Operand.tmp 66, Go.Operand.tmp 67], argTypes := #[25, 25] }, type := 25, pos := "high.go:194", after := #[{ on := 2, ground := Go.Ground.data }, { on := 3, ground := Go.Ground.data }], guard := none }) rfl (fun K hK => ?_) ?_
                  · go_simp
                    refine (IH.out _ (lowN ok w.heap.size (w.heap.size + 4)) x q _ _ (by exact hHeld.2.2.2.1) (by exact hHeld.2.2.2.2) NX.out NQ.out DQ.out).mono ?_
                    rintro e w4q ⟨r, rfl, hb, hr⟩
                    obtain ⟨z, hz⟩ : ∃ z, diffF E x q = z := ⟨_, rfl⟩
                    rw [hz] at hr
                    have ZZ := hidI (hr.weak (lowN_up hHeld.1.2.2.2.2.2.2))
                    have HZ := hidI hz
                    refine hK.out _ _ (⟨hHeld.1.bel hb, box_bel hb hHeld.2.1, box_bel hb hHeld.2.2.1, hHeld.2.2.2.1.bel hb, hHeld.2.2.2.2.bel hb⟩) (fun hHeld2 => ?_)
                    replace KS := hidI (KS.out.bel hb)
                    clear hz hr hb
                    clear hK K
                    replace hHeld := hHeld2
                    clear hHeld2
                    try simp only [Act.put, List.setIfInBounds_toArray, List.set_cons_zero, List.set_cons_succ]
                    refine wpAnyT_ready (rs := [5]) (by kernel_rfl) (by simp) ?_
                    refine AllReadyT.cons (i := 5) (o := { dst := some 69, op := Go.Op.call { callee := Go.Callee.value (Go.Operand.func 28), args := #[Go.Operand.tmp 64, Go.Operand.tmp 65, Go.Operand.tmp 68], argTypes := #[25, 9, 25] }, type := 25, pos := "high.go:194", after := #[{ on := 0, ground := Go.Ground.data }, { on := 1, ground := Go.Ground.data }, { on := 4, ground := Go.Ground.data }, { on := 4, ground := Go.Ground.chain }], guard := none }) rfl (fun K hK => ?_) ?_
                    · go_simp
                      refine (rwith_is _ (lowN ok w.heap.size (w.heap.size + 4)) y z _ _ (a.keys ++ b.keys)[k] (by exact hHeld.1.2.2.2.2.2.1) (by exact ZZ.out) OY.out (by have := LY.out; omega) jl).mono ?_
                      rintro e w5q ⟨r2, rfl, hr2, hb⟩
                      obtain ⟨u, hu⟩ : ∃ u, withV y (a.keys ++ b.keys)[k] z = u := ⟨_, rfl⟩
                      rw [hu] at hr2
                      obtain ⟨g1, g2, h1, h2, rfl⟩ := hr2.form
                      have U : Hid (In w5q (lowN ok w.heap.size (w.heap.size + 4)) u (.agg #[.int .i64 u.kind, .int .i64 u.n, .string ⟨u.s.toArray⟩, .slice g1 u.keys.length h1, .slice g2 u.l.length h2])) := hidI (hr2.weak (lowN_up hHeld.1.2.2.2.2.2.2))
                      have HU := hidI hu
                      refine hK.out _ _ (⟨hHeld.1.bel hb, box_bel hb hHeld.2.1, box_bel hb hHeld.2.2.1, hHeld.2.2.2.1.bel hb, hHeld.2.2.2.2.bel hb⟩) (fun hHeld2 => ?_)
                      replace KS := hidI (KS.out.bel hb)
                      clear hu hr2 hb
                      clear hK K
                      replace hHeld := hHeld2
                      clear hHeld2
                      try simp only [Act.put, List.setIfInBounds_toArray, List.set_cons_zero, List.set_cons_succ]
                      obtain ⟨o0, o1, o2, o3, o4, f0, f1, f2, f3, f4⟩ := hHeld.1.2.2.2.1.c
                      have HE := hidI hHeld
                      clear hHeld
                      refine wpAnyT_last (i := 6) (o := { dst := none, op := Go.Op.store 25 (Go.Operand.tmp 5) (Go.Operand.tmp 69), type := 0, pos := "high.go:194", after := #[{ on := 5, ground := Go.Ground.data }, { on := 5, ground := Go.Ground.chain }, { on := 0, ground := Go.Ground.phase }, { on := 1, ground := Go.Ground.phase }, { on := 2, ground := Go.Ground.phase }, { on := 3, ground := Go.Ground.phase }, { on := 4, ground := Go.Ground.phase }, { on := 5, ground := Go.Ground.phase }], guard := none }) (by kernel_rfl) (by rfl) rfl (fun K hK => ?_)
                      go_simp
                      refine hK.out _ _ ?_
                      clear hK K
                      try simp only [Act.put, List.setIfInBounds_toArray, List.set_cons_zero, List.set_cons_succ]
                      refine wpAnyT_done (by kernel_rfl) ?_ _
                      go_wp2_with fail
                      go_roundg (a.keys.length + b.keys.length - (k + 1))
                      case measure => rw [GK.out]; omega
                      case rel => exact ⟨k + 1, hlt, rfl, by go_num, FIN.out z u HZ.out HU.out.symm _ _ _ _ _ HE.out.1 U.out KS.out⟩
                    exact AllReadyT.nil
                  exact AllReadyT.nil
          · have hke : k = a.keys.length + b.keys.length := by omega
            have HF : Hid (diffF (E + 1) a b = y) := hidI (by rw [← HM.out, HY.out, List.take_of_length_le (by rw [List.length_append]; omega)])
            have d1 : ¬ (k : Int) < ((a.keys.length + b.keys.length : Nat) : Int) := by omega
            have d2 : ¬ (k : Int) < (a.keys.length : Int) + (b.keys.length : Int) := by omega
            obtain ⟨y0, y1, y2, y3, y4, -⟩ := I.out.2.2.2.1.c
            obtain ⟨z0, z1, z2, z3, z4, z5, z6, z7, z8, z9⟩ := I.out.2.2.1.c
            have Z : Hid (_ ∧ _) := hidI (sto_out (g := w.heap.size + 2) I.out.2.2.2.2.2.1 I.out.2.2.2.2.1 (by omega) (by omega))
            have ZB : Hid _ := hidI (I.out.2.2.1.set (.int .i64 y.kind) (.int .i64 y.n) (.string ⟨y.s.toArray⟩) (.slice b1 y.keys.length e1') (.slice b2 y.l.length e2'))
            clear hke
            go_wp2_with fail
            obtain ⟨q0, q1, q2, q3, q4, -⟩ := ZB.out.c
            refine bodyPost_ret (v := .agg #[.int .i64 y.kind, .int .i64 y.n, .string ⟨y.s.toArray⟩, .slice b1 y.keys.length e1', .slice b2 y.l.length e2']) ?_ rfl ?_
            · simp only [set5] at q0 q1 q2 q3 q4
              simp [results, Tryz.results18, go_sem, q0, q1, q2, q3, q4]
            · exact ⟨_, rfl, Z.out.1, by rw [HF.out]; exact Z.out.2⟩
      exact AllReadyT.nil
    exact AllReadyT.nil
  · have e0 : ((a.kind != 5) || (b.kind != 5)) = true := by
      rw [Bool.or_eq_true, bne_iff_ne, bne_iff_ne]
      by_cases h1 : a.kind = 5
      · exact .inr fun h2 => hk ⟨h1, h2⟩
      · exact .inl h1
    have HM : Hid (diffF (E + 1) a b = b) := hidI (by rw [diffF, if_neg hk])
    have B3 : Hid (∀ o1 o2 o3, Below w.heap.size w (((w.alloc o1).alloc o2).alloc o3)) := fun o1 o2 o3 => bel_trans (bel_trans (bel_alloc _ _) (bel_alloc _ _)) (bel_alloc _ _)
    have K := hidI ((Hb.out.bel (B3.out (.cells #[.int .i64 a.kind, .int .i64 a.n, .string ⟨a.s.toArray⟩, .slice a1 a.keys.length c1, .slice a2 a.l.length c2] 25) (.cells #[.int .i64 b.kind, .int .i64 b.n, .string ⟨b.s.toArray⟩, .slice a3 b.keys.length c3, .slice a4 b.l.length c4] 25) (.cells #[.int .i64 b.kind, .int .i64 b.n, .string ⟨b.s.toArray⟩, .slice a3 b.keys.length c3, .slice a4 b.l.length c4] 25))).weak low_out)
    clear hk
    cases ha : (a.kind != 5) with
    | true =>
      go_enter Tryz.func18, Tryz.ntmps18
      go_wp2_with fail
      refine bodyPost_ret (v := .agg #[.int .i64 b.kind, .int .i64 b.n, .string ⟨b.s.toArray⟩, .slice a3 b.keys.length c3, .slice a4 b.l.length c4]) ?_ rfl ?_
      · simp [results, Tryz.results18, go_sem]
      · exact ⟨_, rfl, B3.out _ _ _, by rw [HM.out]; exact K.out⟩
    | false =>
      rw [ha, Bool.false_or] at e0
      go_enter Tryz.func18, Tryz.ntmps18
      go_wp2_with fail
      refine bodyPost_ret (v := .agg #[.int .i64 b.kind, .int .i64 b.n, .string ⟨b.s.toArray⟩, .slice a3 b.keys.length c3, .slice a4 b.l.length c4]) ?_ rfl ?_
      · simp [results, Tryz.results18, go_sem]
      · exact ⟨_, rfl, B3.out _ _ _, by rw [HM.out]; exact K.out⟩
theorem rother_is (E : Nat) : ROtC E := by
  induction E with
  | zero => intro w ok a b va vb _ _ _ _ h; exact h.elim
  | succ E ih => exact rother_succ E ih
end Go.Proofs.YtfbddgpekbhpfacGreatDoor
