/- What list of json's reader does, if value does what is said of it. -/
import Derived.Test.YtfbddgpekbhpfacGreatDoorSp
import Derived.Test.YtfbddgpekbhpfacGreatDoorCh
import Derived.Deep.RegionLaw
import Derived.Deep.DeepCutAuto
import Derived.Deep.CutBlock
set_option linter.unusedSimpArgs false
set_option linter.unusedVariables false
namespace Go.Proofs.YtfbddgpekbhpfacGreatDoor
open Go.RowKit

/- What is said of value, where less than f is still to be read. -/
def ValC (f : Nat) : Prop := ∀ (w : World) (b : Nat) (s : ByteArray) (st : Option (List UInt8)), RdSt w b s st → Glob w → 4 ≤ b → (st.getD []).length < f →
    Calls Tryz.prog 31 #[.pointer (some ⟨b, 0, none⟩)] w fun e w' => ∃ (t : V) (st' : Option (List UInt8)) (a7 a8 : Option Addr) (c7 c8 : Nat),
      e = .returned (.agg #[.int .i64 t.kind, .int .i64 t.n, .string ⟨t.s.toArray⟩, .slice a7 t.keys.length c7, .slice a8 t.l.length c8]) ∧
      VIs w' (fun k => w.heap.size ≤ k) f t (.agg #[.int .i64 t.kind, .int .i64 t.n, .string ⟨t.s.toArray⟩, .slice a7 t.keys.length c7, .slice a8 t.l.length c8]) ∧ st.bind (valS f) = st'.map (fun l => (t, l)) ∧ RdSt w' b s st' ∧ w.grownBy w' (some b)

/- One value more, behind a row of values that the call has made. -/
theorem box_setL {w : World} {g : Nat} {c0 c1 c2 c3 c4 : Value} (h : BoxIs w g c0 c1 c2 c3 c4) (v : Value) : BoxIs (w.setCell ⟨g, 4, none⟩ v) g c0 c1 c2 c3 v := heap_set h 4 v
theorem step_appendV {w : World} {ops : Array Oper} {o : Oper} {a : Act} {K : Act → World → Prop} {Q : Exit → Act → World → Prop} {E : Prop} (hgd : o.guard = none) (s x : Operand)
    (ho : o.op = .call { callee := .builtin .append, args := #[s, x], argTypes := #[23, 23] }) (B : Nat) (v : Value) (n : Nat) (cs : List Value) (k m : Int) (ss : ByteArray) (a7 a8 : Option Addr) (l7 c7 l8 c8 : Nat) (hs : a.eval s = v)
    (hx : a.eval x = .slice (some ⟨w.heap.size, 0, none⟩) 1 1) (hown : w.ownsRow B 25 5 v n cs) (hB : B ≤ w.heap.size) (hl : n ≤ 1000000)
    (hK : ∀ g cap w', w'.ownsRow B 25 5 (.slice (some ⟨g, 0, none⟩) (n + 1) cap) (n + 1) (cs ++ [.int .i64 k, .int .i64 m, .string ss, .slice a7 l7 c7, .slice a8 l8 c8]) → (w.alloc (.cells #[.int .i64 k, .int .i64 m, .string ss, .slice a7 l7 c7, .slice a8 l8 c8] 25)).grownBy w' v.ownBlock → (v.ownBlock = some g ∨ w.heap.size < g) → K (a.put o.dst (.slice (some ⟨g, 0, none⟩) (n + 1) cap)) w') :
    if Region.wanted o (yielded ops a.tmps) = true then Oper.wp Tryz.prog o a (w.alloc (.cells #[.int .i64 k, .int .i64 m, .string ss, .slice a7 l7 c7, .slice a8 l8 c8] 25)) K Q else E := by
  obtain ⟨i0, hi, hz0, hz1, hz2⟩ := info_parts info25
  have hb : BoxIs (w.alloc (.cells #[.int .i64 k, .int .i64 m, .string ss, .slice a7 l7 c7, .slice a8 l8 c8] 25)) w.heap.size (.int .i64 k) (.int .i64 m) (.string ss) (.slice a7 l7 c7) (.slice a8 l8 c8) := heap_alloc_new w _
  obtain ⟨h1, h2, h3, h4⟩ := slbox hb (one5 _ _ _ _ _ _ _ _ _)
  refine step_append_lies _ hgd s x 23 ho B 25 i0 _ 5 80 Tryz.underlying23 hi hz0 hz1 hz2 rfl (by decide) v n cs hs (hown.alloc _) ⟨w.heap.size, 0, none⟩ 1 1 [.int .i64 k, .int .i64 m, .string ss, .slice a7 l7 c7, .slice a8 l8 c8] hx rfl ?_ h3 (by decide) (by unfold maxLen; omega) (by omega) (by simp; omega) (w.heap.size + 1) (by simp) ?_
  · rcases h4 with ⟨e, _⟩ | ⟨ad, c, e, hc⟩
    · simp at e
    · simp only [Value.slice.injEq, Option.some.injEq] at e
      obtain ⟨rfl, -, -⟩ := e
      exact hc
  · intro g cap w' ho' hg' hor _
    exact hK g cap w' ho' hg' (hor.imp id fun e => by omega)

theorem listS_next {g : List UInt8 → Option (V × List UInt8)} {st : Option (List UInt8)} :
    st.bind (listS g) = (st.bind (markS 91)).bind fun l => match markS 93 l with | some r => some (⟨4, 0, [], [], []⟩, r) | none => (g (l.dropWhile isSp)).bind fun p => itemsS g (p.2.length + 1) [p.1] p.2 := by
  cases st <;> rfl

theorem itemsS_fuel {g : List UInt8 → Option (V × List UInt8)} (hg : Less g) (n : Nat) : ∀ (m : Nat) (acc : List V) (l : List UInt8), l.length < n → l.length < m → itemsS g n acc l = itemsS g m acc l := by
  induction n with
  | zero => intro m acc l h; omega
  | succ n ih =>
    intro m acc l h1 h2
    cases m with
    | zero => omega
    | succ m =>
      simp only [itemsS]
      split
      · rename_i r hr
        have := markS_len hr
        cases hgr : g r with
        | none => rfl
        | some p =>
          have := hg _ _ hgr
          exact ih m _ _ (by omega) (by omega)
      · rfl
def itemsT (g : List UInt8 → Option (V × List UInt8)) (acc : List V) (st : Option (List UInt8)) : Option (V × List UInt8) := st.bind fun l => itemsS g (l.length + 1) acc l
theorem items_step {g : List UInt8 → Option (V × List UInt8)} (hg : Less g) {acc : List V} {st1 st3 : Option (List UInt8)} {t0 : V} (h2 : (st1.bind (markS 44)).isSome = true) (h3 : (st1.bind (markS 44)).bind g = st3.map (fun l => (t0, l))) :
    itemsT g acc st1 = itemsT g (acc ++ [t0]) st3 ∧ togo st3 < togo st1 := by
  cases st1 with
  | none => cases h2
  | some l =>
    cases hm : markS 44 l with
    | none => simp [hm] at h2
    | some r =>
      have hr := markS_len hm
      simp only [Option.bind_some, hm] at h3
      have e : itemsT g acc (some l) = (g r).bind fun p => itemsS g l.length (acc ++ [p.1]) p.2 := by
        show itemsS g (l.length + 1) acc l = _
        simp only [itemsS, hm]
      rw [e, h3]
      cases st3 with
      | none => exact ⟨rfl, by simp [togo]⟩
      | some l3 =>
        have hl := hg _ _ h3
        simp only at hl
        exact ⟨itemsS_fuel hg _ _ _ _ (by simp only; omega) (by simp only; omega), by simp only [togo]; omega⟩
theorem items_end {g : List UInt8 → Option (V × List UInt8)} {acc : List V} {st1 : Option (List UInt8)} (h2 : (st1.bind (markS 44)).isSome = false) :
    itemsT g acc st1 = ((st1.map (List.dropWhile isSp)).bind (markS 93)).map fun r => (⟨4, 0, [], [], acc⟩, r) := by
  cases st1 with
  | none => rfl
  | some l =>
    cases hm : markS 44 l with
    | some r => simp [hm] at h2
    | none =>
      show itemsS g (l.length + 1) acc l = _
      simp only [itemsS, hm]; rfl
theorem list_first {g : List UInt8 → Option (V × List UInt8)} {st st3 : Option (List UInt8)} {t0 : V} (h2 : ((st.bind (markS 91)).bind (markS 93)).isSome = false)
    (h3 : ((st.bind (markS 91)).map (List.dropWhile isSp)).bind g = st3.map (fun l => (t0, l))) : st.bind (listS g) = itemsT g [t0] st3 := by
  rw [listS_next]
  cases hs : st.bind (markS 91) with
  | none =>
    rw [hs] at h3
    cases st3 with
    | none => rfl
    | some l => cases h3
  | some l =>
    rw [hs] at h2 h3
    simp only [Option.bind_some] at h2 ⊢
    have hm : markS 93 l = none := by cases hm : markS 93 l with
      | none => rfl
      | some r => simp [hm] at h2
    rw [hm]
    have h3' : g (l.dropWhile isSp) = st3.map (fun l => (t0, l)) := h3
    simp only [h3']
    cases st3 <;> rfl

/- What holds ahead of each comma. -/
def ListI (f : Nat) (w : World) (b : Nat) (s : ByteArray) (T : Option (V × List UInt8)) (k : Nat) (wr : World) : Prop :=
  ∃ (acc : List V) (st1 : Option (List UInt8)) (g cap : Nat) (cs : List Value), k = togo st1 ∧ itemsT (valS f) acc st1 = T ∧ acc.length + k ≤ 3000 ∧ (st1.getD []).length < f ∧
    BoxIs wr w.heap.size (.int .i64 0) (.int .i64 0) (.string ⟨#[]⟩) (.slice none 0 0) (.slice none 0 0) ∧
    BoxIs wr (w.heap.size + 1) (.int .i64 4) (.int .i64 0) (.string ⟨#[]⟩) (.slice none 0 0) (.slice (some ⟨g, 0, none⟩) acc.length cap) ∧
    wr.ownsRow (w.heap.size + 2) 25 5 (.slice (some ⟨g, 0, none⟩) acc.length cap) acc.length cs ∧ RowV (VIs wr (fun k => w.heap.size + 2 ≤ k ∧ k ≠ g) f) acc cs ∧ RdSt wr b s st1 ∧ Glob wr ∧ w.grownBy wr (some b)

theorem listI_mk {f : Nat} {w w3 w4 : World} {b : Nat} {s : ByteArray} {T : Option (V × List UInt8)} {t0 : V} {st3 : Option (List UInt8)} {acc : List V} {cs : List Value} {lv : Value} {a7 a8 : Option Addr} {c7 c8 g cap g0 : Nat} (hbl : b < w.heap.size)
    (bxC : BoxIs w3 w.heap.size (.int .i64 0) (.int .i64 0) (.string ⟨#[]⟩) (.slice none 0 0) (.slice none 0 0)) (bxA : BoxIs w3 (w.heap.size + 1) (.int .i64 4) (.int .i64 0) (.string ⟨#[]⟩) (.slice none 0 0) lv)
    (hown3 : w3.ownsRow (w.heap.size + 2) 25 5 lv acc.length cs) (hlv : lv.ownBlock = none ∨ lv.ownBlock = some g0) (hrow3 : RowV (VIs w3 (fun k => w.heap.size + 2 ≤ k ∧ k ≠ g0) f) acc cs)
    (hv : VIs w3 (fun k => w.heap.size + 2 ≤ k ∧ k ≠ g0) f t0 (.agg #[.int .i64 t0.kind, .int .i64 t0.n, .string ⟨t0.s.toArray⟩, .slice a7 t0.keys.length c7, .slice a8 t0.l.length c8])) (hT : itemsT (valS f) (acc ++ [t0]) st3 = T) (hl : (st3.getD []).length < f) (hc : acc.length + 1 + togo st3 ≤ 3000) (hr : RdSt w3 b s st3) (hG : Glob w3) (hb4 : 4 ≤ b) (hg : w.grownBy w3 (some b))
    (ho4 : w4.ownsRow (w.heap.size + 2) 25 5 (.slice (some ⟨g, 0, none⟩) (acc.length + 1) cap) (acc.length + 1) (cs ++ [.int .i64 t0.kind, .int .i64 t0.n, .string ⟨t0.s.toArray⟩, .slice a7 t0.keys.length c7, .slice a8 t0.l.length c8])) (hg4 : (w3.alloc (.cells #[.int .i64 t0.kind, .int .i64 t0.n, .string ⟨t0.s.toArray⟩, .slice a7 t0.keys.length c7, .slice a8 t0.l.length c8] 25)).grownBy w4 lv.ownBlock) (hgg : lv.ownBlock = some g ∨ w3.heap.size < g) :
    ListI f w b s T (togo st3) (w4.setCell ⟨w.heap.size + 1, 4, none⟩ (.slice (some ⟨g, 0, none⟩) (acc.length + 1) cap)) := by
  have hlow : ∀ k, lv.ownBlock = some k → w.heap.size + 2 ≤ k := fun k hk => (hown3.lt k hk).1
  have g34 : w3.grownBy w4 lv.ownBlock := gb_trans (World.grownBy_alloc w3 _ _) hg4
  have g5 : w4.grownBy (w4.setCell ⟨w.heap.size + 1, 4, none⟩ (.slice (some ⟨g, 0, none⟩) (acc.length + 1) cap)) (some (w.heap.size + 1)) := gb_set (gb_refl _ _) _ _
  have ne : ∀ k, k < w.heap.size + 2 → some k ≠ lv.ownBlock := fun k hk e => by have := hlow k e.symm; omega
  have conv : ∀ x v, VIs w3 (fun k => w.heap.size + 2 ≤ k ∧ k ≠ g0) f x v → VIs (w4.setCell ⟨w.heap.size + 1, 4, none⟩ (.slice (some ⟨g, 0, none⟩) (acc.length + 1) cap)) (fun k => w.heap.size + 2 ≤ k ∧ k ≠ g) f x v := by
    intro x v h
    have h1 := (h.below.grown g34 (fun k hk e => by rcases hlv with h0 | h0 <;> rw [h0] at e <;> simp at e; exact hk.1.2 e)).grown g5 (fun k hk e => by simp at e; omega)
    refine h1.weak fun k hk => ⟨hk.1.1, fun e => ?_⟩
    subst e
    rcases hgg with h0 | h0
    · rcases hlv with h2 | h2
      · rw [h2] at h0; cases h0
      · rw [h2] at h0; cases h0; exact hk.1.2 rfl
    · omega
  refine ⟨acc ++ [t0], st3, g, cap, cs ++ [.int .i64 t0.kind, .int .i64 t0.n, .string ⟨t0.s.toArray⟩, .slice a7 t0.keys.length c7, .slice a8 t0.l.length c8], rfl, hT, by simp only [List.length_append, List.length_cons, List.length_nil]; omega, hl, ?_, ?_, ?_, ?_, ?_, ?_, ?_⟩
  · exact (bxC.grown g34 (ne _ (by omega))).grown g5 (by simp)
  · have := box_setL (bxA.grown g34 (ne _ (by omega))) (.slice (some ⟨g, 0, none⟩) (acc.length + 1) cap)
    simpa using this
  · have := own_kept' ho4 g5 (by omega)
    simpa using this
  · have rx : RowV (VIs (w4.setCell ⟨w.heap.size + 1, 4, none⟩ (.slice (some ⟨g, 0, none⟩) (acc.length + 1) cap)) (fun k => w.heap.size + 2 ≤ k ∧ k ≠ g) f) [t0] [.int .i64 t0.kind, .int .i64 t0.n, .string ⟨t0.s.toArray⟩, .slice a7 t0.keys.length c7, .slice a8 t0.l.length c8] := ⟨_, _, _, _, _, [], rfl, conv _ _ hv, rfl⟩
    exact rx.append (hrow3.imp conv)
  · exact (hr.grown g34 (ne _ (by omega))).grown g5 (by simp; omega)
  · exact (hG.grown g34 (fun k hk => by have := hlow k hk; have := hG.size; omega)).grown g5 (fun k hk => by cases hk; have := hG.size; omega)
  · exact gb_setA (gb_own hg g34 (fun k hk => by have := hlow k hk; omega)) (by omega) _ _

set_option maxRecDepth 100000 in
set_option maxHeartbeats 4000000 in
theorem list_st (f : Nat) (ih : ValC f) (w : World) (b : Nat) (s : ByteArray) (st : Option (List UInt8)) (h : RdSt w b s st) (hG : Glob w) (hb4 : 4 ≤ b) (hf0 : 0 < f) (hlen : (st.getD []).length < f + 1) :
    Calls Tryz.prog 44 #[.pointer (some ⟨b, 0, none⟩)] w fun e w' => ∃ (t : V) (st' : Option (List UInt8)) (a7 a8 : Option Addr) (c7 c8 : Nat),
      e = .returned (.agg #[.int .i64 t.kind, .int .i64 t.n, .string ⟨t.s.toArray⟩, .slice a7 t.keys.length c7, .slice a8 t.l.length c8]) ∧
      VIs w' (fun k => w.heap.size ≤ k) (f + 1) t (.agg #[.int .i64 t.kind, .int .i64 t.n, .string ⟨t.s.toArray⟩, .slice a7 t.keys.length c7, .slice a8 t.l.length c8]) ∧ st.bind (listS (valS f)) = st'.map (fun l => (t, l)) ∧ RdSt w' b s st' ∧ w.grownBy w' (some b) := by
  have H := hidI h
  have HG := hidI hG
  have IH := hidI ih
  have hbl := h.lt
  clear h hG ih
  go_enter Tryz.func44, Tryz.ntmps44
  go_wp2_with fail
  refine (need_st _ b s st 91 91 rfl (by decide) (by exact H.out.grown (gb_alloc (World.grownBy_alloc w _ none) _) (by simp))).mono ?_
  rintro e w1 ⟨rfl, h1, hg1⟩
  have bx1 : Hid (BoxIs w1 w.heap.size (.int .i64 0) (.int .i64 0) (.string ⟨#[]⟩) (.slice none 0 0) (.slice none 0 0) ∧ BoxIs w1 (w.heap.size + 1) (.int .i64 4) (.int .i64 0) (.string ⟨#[]⟩) (.slice none 0 0) (.slice none 0 0)) :=
    ⟨BoxIs.grown (h2a w _ _) hg1 (by simp; omega), BoxIs.grown (h2b w _ _) hg1 (by simp; omega)⟩
  have G1 : Hid (RdSt w1 b s (st.bind (markS 91)) ∧ w.grownBy w1 (some b)) := ⟨h1, gb_trans (gb_alloc (gb_alloc (gb_refl _ _) _) _) hg1⟩
  clear h1 hg1
  go_wp2_with fail
  refine (mark_st _ b s (st.bind (markS 91)) 93 93 rfl (by decide) (by exact G1.out.1)).mono ?_
  rintro e w2 ⟨rfl, h2, hg2⟩
  have bx2 : Hid (BoxIs w2 w.heap.size (.int .i64 0) (.int .i64 0) (.string ⟨#[]⟩) (.slice none 0 0) (.slice none 0 0) ∧ BoxIs w2 (w.heap.size + 1) (.int .i64 4) (.int .i64 0) (.string ⟨#[]⟩) (.slice none 0 0) (.slice none 0 0)) :=
    ⟨bx1.out.1.grown hg2 (by simp; omega), bx1.out.2.grown hg2 (by simp; omega)⟩
  have G2 : Hid (RdSt w2 b s (if ((st.bind (markS 91)).bind (markS 93)).isSome then (st.bind (markS 91)).bind (markS 93) else (st.bind (markS 91)).map (List.dropWhile isSp)) ∧ w.grownBy w2 (some b)) := ⟨h2, gb_trans G1.out.2 hg2⟩
  obtain ⟨x0, x1, x2, x3, x4, y0, y1, y2, y3, y4⟩ := bx2.out.1.c
  obtain ⟨p0, p1, p2, p3, p4, -, -, -, p9, p10⟩ := bx2.out.2.c
  clear h2 hg2 bx1 G1
  cases hm : ((st.bind (markS 91)).bind (markS 93)).isSome with
  | true =>
    have HM := hidI hm
    obtain ⟨z0, z1, z2, z3, z4, -⟩ := (bx2.out.1.set (.int .i64 4) (.int .i64 0) (.string ⟨#[]⟩) (.slice none 0 0) (.slice none 0 0)).c
    have Z : Hid (_ ∧ _ ∧ _ ∧ _ ∧ _) := ⟨z0, z1, z2, z3, z4⟩
    clear z0 z1 z2 z3 z4 hm
    go_wp2_with fail
    obtain ⟨z0, z1, z2, z3, z4⟩ := Z.out
    refine bodyPost_ret (v := leaf 4 0 []) ?_ rfl ?_
    · simp only [set5, str] at z0 z1 z2 z3 z4
      simp [results, Tryz.results44, go_sem, z0, z1, z2, z3, z4, leaf, str]
    · refine ⟨leafV 4 0 [], (st.bind (markS 91)).bind (markS 93), none, none, 0, 0, rfl, leaf_is _ _ f _ _ _ (by unfold I64; omega) (by unfold I64; omega) (by simp), ?_, ?_, ?_⟩
      · rw [listS_next]
        cases hs : st.bind (markS 91) with
        | none => rw [hs] at HM; exact absurd HM.out (by simp)
        | some l =>
          rw [hs] at HM
          cases h9 : markS 93 l with
          | none => simp [h9] at HM; exact absurd HM.out (by simp)
          | some r => simp only [Option.bind_some, h9]; rfl
      · have := G2.out.1
        rw [if_pos HM.out] at this
        exact this.of_heap ((set5_gb w2 w.heap.size _ _ _ _ _).block b this.lt (by simp; omega))
      · exact gb_own G2.out.2 (set5_gb w2 w.heap.size _ _ _ _ _) (by intro k hk; cases hk; exact Nat.le_refl _)
  | false =>
    have HM := hidI hm
    have G3 : Hid (RdSt w2 b s ((st.bind (markS 91)).map (List.dropWhile isSp)) ∧ w.grownBy w2 (some b) ∧ Glob w2) := by
      have := G2.out.1
      rw [if_neg (by rw [HM.out]; simp)] at this
      exact ⟨this, G2.out.2, HG.out.grown G2.out.2 (by intro k hk; cases hk; exact hb4)⟩
    clear hm G2
    have call5 : Hid (∀ W, W.heap = w2.heap → W.os = w2.os → W.tape = w2.tape → W.output = w2.output → Calls Tryz.prog 31 #[.pointer (some ⟨b, 0, none⟩)] W fun e w' => ∃ (t : V) (st' : Option (List UInt8)) (a7 a8 : Option Addr) (c7 c8 : Nat),
        e = .returned (.agg #[.int .i64 t.kind, .int .i64 t.n, .string ⟨t.s.toArray⟩, .slice a7 t.keys.length c7, .slice a8 t.l.length c8]) ∧ VIs w' (fun k => w2.heap.size ≤ k) f t (.agg #[.int .i64 t.kind, .int .i64 t.n, .string ⟨t.s.toArray⟩, .slice a7 t.keys.length c7, .slice a8 t.l.length c8]) ∧ st.bind (listS (valS f)) = itemsT (valS f) [t] st' ∧ (st'.getD []).length < f ∧ 1 + togo st' ≤ 3000 ∧ RdSt w' b s st' ∧ w2.grownBy w' (some b)) := by
      intro W e1 e2 e3 e4
      have hl2 : (((st.bind (markS 91)).map (List.dropWhile isSp)).getD []).length < f := by
        cases hs : st.bind (markS 91) with
        | none => exact hf0
        | some l =>
          cases st with
          | none => cases hs
          | some l0 =>
            have := markS_len (show markS 91 l0 = some l from hs)
            have := dropSp_len l
            simp only [Option.getD_some, Option.map_some] at hlen ⊢
            omega
      have hgW : w2.grownBy W (some b) := ⟨e2, e3, e4, by rw [e1]; exact Nat.le_refl _, fun k _ _ => by rw [e1]⟩
      refine (IH.out W b s _ (G3.out.1.of_heap (by rw [e1])) (G3.out.2.2.same e1) hb4 hl2).mono ?_
      rintro e w' ⟨t, st', a7, a8, c7, c8, rfl, hv, hst, hr, hg⟩
      rw [e1] at hv
      refine ⟨t, st', a7, a8, c7, c8, rfl, hv, list_first HM.out hst, ?_, ?_, hr, gb_trans hgW hg⟩
      · cases st' with
        | none => exact hf0
        | some l' =>
          cases hs : (st.bind (markS 91)).map (List.dropWhile isSp) with
          | none => rw [hs] at hst; cases hst
          | some l1 =>
            rw [hs] at hst hl2
            have := valS_len f l1 _ hst
            simp only [Option.getD_some] at hl2 ⊢
            simp only at this
            omega
      · cases st' with
        | none => simp [togo]
        | some l' => have := hr.len; simp only [togo]; omega
    go_upto_region 5 with fail
    go_cut [] (fun wc => ∃ k, ListI f w b s (st.bind (listS (valS f))) k wc)
    case first =>
      go_region_law ((first | (refine step_appendV (by rfl) _ _ (by rfl) (w.heap.size + 2) (.slice none 0 0) 0 [] t0.kind t0.n ⟨t0.s.toArray⟩ a7 a8 t0.keys.length c7 t0.l.length c8 (by rfl) (by rfl) (World.ownsRow_nil _ _ _ _) hsz3 (by omega) ?_; intro g cap w4 ho4 hg4 hgg4; obtain ⟨x0, x1, x2, x3, x4, y0, y1, y2, y3, y4⟩ := (bx3.out.1.grown (World.grownBy_alloc _ _ none) (by simp)).grown hg4 (by simp [Value.ownBlock]) |>.c; obtain ⟨p0, p1, p2, p3, p4, -, -, -, p9, p10⟩ := (bx3.out.2.grown (World.grownBy_alloc _ _ none) (by simp)).grown hg4 (by simp [Value.ownBlock]) |>.c) | (go_simp; go_at_call 31; refine (call5.out _ (by rfl) (by rfl) (by rfl) (by rfl)).mono ?_; rintro e w3 ⟨t0, st3, a7, a8, c7, c8, rfl, hv3, hT3, hl3, ht3, hr3, hg3⟩; have hsz3 : w.heap.size + 2 ≤ w3.heap.size := Nat.le_trans bx2.out.2.lt hg3.size; have bx3 : Hid (BoxIs w3 w.heap.size (.int .i64 0) (.int .i64 0) (.string ⟨#[]⟩) (.slice none 0 0) (.slice none 0 0) ∧ BoxIs w3 (w.heap.size + 1) (.int .i64 4) (.int .i64 0) (.string ⟨#[]⟩) (.slice none 0 0) (.slice none 0 0)) := ⟨bx2.out.1.grown hg3 (by simp; omega), bx2.out.2.grown hg3 (by simp; omega)⟩; have k4 : ∀ o, (w3.alloc o).cell? ⟨w.heap.size + 1, 4, none⟩ = some (.slice none 0 0) := fun o => (bx3.out.2.grown (World.grownBy_alloc w3 o none) (by simp)).c.2.2.2.2.1; have q4 := bx3.out.2.c.2.2.2.2.1; have V3 : Hid (_ ∧ _ ∧ _ ∧ _ ∧ _ ∧ _) := ⟨hv3, hT3, hl3, ht3, hr3, hg3⟩; clear hv3 hT3 hl3 ht3 hr3 hg3)))
      all_goals
        go_wp2_with fail
        go_meet
        case rel =>
          obtain ⟨hv3, hT3, hl3, ht3, hr3, hg3⟩ := V3.out
          refine ⟨togo st3, listI_mk (acc := []) (g0 := w3.heap.size) hbl bx3.out.1 bx3.out.2 (World.ownsRow_nil _ _ _ _) (.inl rfl) rfl ?_ hT3.symm hl3 (by simpa using ht3) hr3 (G3.out.2.2.grown hg3 (by intro k hk; cases hk; exact hb4)) hb4 (gb_trans G3.out.2.1 hg3) ho4 hg4 hgg4⟩
          exact hv3.below.weak fun k hk => ⟨Nat.le_trans bx2.out.2.lt hk.1, by omega⟩
    case rest =>
      obtain ⟨k0, hI0⟩ := hcut
      have I0 := hidI hI0
      clear hI0 x0 x1 x2 x3 x4 y0 y1 y2 y3 y4 p0 p1 p2 p3 p4 p9 p10 call5 bx2 G3
      go_wp2_with fail
      go_loopg [] k0 (fun k wr => ListI f w b s (st.bind (listS (valS f))) k wr)
      case atStart => exact I0.out
      case round =>
        obtain ⟨acc, st1, g0, cap0, cs, hk, hT, hc, hl1, bxC, bxA, ho, hrow, hr, hGr, hg⟩ := hrel
        have A : Hid (gk = togo st1 ∧ itemsT (valS f) acc st1 = st.bind (listS (valS f)) ∧ acc.length + gk ≤ 3000 ∧ (st1.getD []).length < f ∧ BoxIs wr w.heap.size (.int .i64 0) (.int .i64 0) (.string ⟨#[]⟩) (.slice none 0 0) (.slice none 0 0) ∧ BoxIs wr (w.heap.size + 1) (.int .i64 4) (.int .i64 0) (.string ⟨#[]⟩) (.slice none 0 0) (.slice (some ⟨g0, 0, none⟩) acc.length cap0) ∧ wr.ownsRow (w.heap.size + 2) 25 5 (.slice (some ⟨g0, 0, none⟩) acc.length cap0) acc.length cs ∧ RowV (VIs wr (fun k => w.heap.size + 2 ≤ k ∧ k ≠ g0) f) acc cs ∧ RdSt wr b s st1 ∧ Glob wr ∧ w.grownBy wr (some b)) := ⟨hk, hT, hc, hl1, bxC, bxA, ho, hrow, hr, hGr, hg⟩
        have hacc : acc.length ≤ 3000 := by omega
        clear hk hT hc hl1 bxC bxA ho hrow hr hGr hg
        go_wp2_with fail
        refine (mark_st _ b s st1 44 44 rfl (by decide) (by exact A.out.2.2.2.2.2.2.2.2.1)).mono ?_
        rintro e w2 ⟨rfl, h2, hg2⟩
        have D : Hid (RdSt w2 b s (if (st1.bind (markS 44)).isSome then st1.bind (markS 44) else st1.map (List.dropWhile isSp)) ∧ wr.grownBy w2 (some b) ∧ BoxIs w2 w.heap.size (.int .i64 0) (.int .i64 0) (.string ⟨#[]⟩) (.slice none 0 0) (.slice none 0 0) ∧ BoxIs w2 (w.heap.size + 1) (.int .i64 4) (.int .i64 0) (.string ⟨#[]⟩) (.slice none 0 0) (.slice (some ⟨g0, 0, none⟩) acc.length cap0) ∧ w2.ownsRow (w.heap.size + 2) 25 5 (.slice (some ⟨g0, 0, none⟩) acc.length cap0) acc.length cs ∧ RowV (VIs w2 (fun k => w.heap.size + 2 ≤ k ∧ k ≠ g0) f) acc cs ∧ Glob w2 ∧ w.grownBy w2 (some b)) := by
          obtain ⟨hk, hT, hc, hl1, bxC, bxA, ho, hrow, hr, hGr, hg⟩ := A.out
          exact ⟨h2, hg2, bxC.grown hg2 (by simp; omega), bxA.grown hg2 (by simp; omega), own_kept' ho hg2 (by omega), hrow.imp (fun x v h => h.grown hg2 (fun k hk e => by simp at e; omega)), hGr.grown hg2 (by intro k hk; cases hk; exact hb4), gb_trans hg hg2⟩
        clear h2 hg2
        obtain ⟨x0, x1, x2, x3, x4, y0, y1, y2, y3, y4⟩ := D.out.2.2.1.c
        obtain ⟨p0, p1, p2, p3, p4, -, -, -, p9, p10⟩ := D.out.2.2.2.1.c
        cases hm : (st1.bind (markS 44)).isSome with
        | true =>
          have HM := hidI hm
          have R2 : Hid (RdSt w2 b s (st1.bind (markS 44))) := by have := D.out.1; rw [if_pos hm] at this; exact this
          clear hm
          have call7 : Hid (∀ W, W.heap = w2.heap → W.os = w2.os → W.tape = w2.tape → W.output = w2.output → Calls Tryz.prog 31 #[.pointer (some ⟨b, 0, none⟩)] W fun e w' => ∃ (t : V) (st' : Option (List UInt8)) (a7 a8 : Option Addr) (c7 c8 : Nat),
              e = .returned (.agg #[.int .i64 t.kind, .int .i64 t.n, .string ⟨t.s.toArray⟩, .slice a7 t.keys.length c7, .slice a8 t.l.length c8]) ∧ VIs w' (fun k => w2.heap.size ≤ k) f t (.agg #[.int .i64 t.kind, .int .i64 t.n, .string ⟨t.s.toArray⟩, .slice a7 t.keys.length c7, .slice a8 t.l.length c8]) ∧ st.bind (listS (valS f)) = itemsT (valS f) (acc ++ [t]) st' ∧ togo st' < gk ∧ (st'.getD []).length < f ∧ RdSt w' b s st' ∧ w2.grownBy w' (some b)) := by
            intro W e1 e2 e3 e4
            obtain ⟨hk, hT, hc, hl1, -⟩ := A.out
            have hl2 : ((st1.bind (markS 44)).getD []).length < f := by
              cases st1 with
              | none => exact hf0
              | some l0 =>
                cases hs : markS 44 l0 with
                | none => simp only [Option.bind_some, hs]; exact hf0
                | some l =>
                  have := markS_len hs
                  simp only [Option.bind_some, hs, Option.getD_some] at hl1 ⊢
                  omega
            have hgW : w2.grownBy W (some b) := ⟨e2, e3, e4, by rw [e1]; exact Nat.le_refl _, fun k _ _ => by rw [e1]⟩
            refine (IH.out W b s _ (R2.out.of_heap (by rw [e1])) (D.out.2.2.2.2.2.2.1.same e1) hb4 hl2).mono ?_
            rintro e w' ⟨t, st', a7, a8, c7, c8, rfl, hv, hst, hr, hg⟩
            rw [e1] at hv
            obtain ⟨i1, i2⟩ := items_step (acc := acc) (valS_len f) HM.out hst
            refine ⟨t, st', a7, a8, c7, c8, rfl, hv, by rw [← hT, i1], by rw [hk]; exact i2, ?_, hr, gb_trans hgW hg⟩
            cases st' with
            | none => exact hf0
            | some l' =>
              cases hs : st1.bind (markS 44) with
              | none => rw [hs] at hst; cases hst
              | some l1 =>
                rw [hs] at hst hl2
                have := valS_len f l1 _ hst
                simp only [Option.getD_some] at hl2 ⊢
                simp only at this
                omega
          go_wp2_with fail
          go_region_law ((first | (refine step_appendV (by rfl) _ _ (by rfl) (w.heap.size + 2) (.slice (some ⟨g0, 0, none⟩) acc.length cap0) acc.length cs t0.kind t0.n ⟨t0.s.toArray⟩ a7 a8 t0.keys.length c7 t0.l.length c8 (by rfl) (by rfl) bx3.out.2.2 hsz3 (by omega) ?_; intro g cap w4 ho4 hg4 hgg4; obtain ⟨x0, x1, x2, x3, x4, y0, y1, y2, y3, y4⟩ := (bx3.out.1.grown (World.grownBy_alloc _ _ none) (by simp)).grown hg4 (hne4.out _ (by omega)) |>.c; obtain ⟨p0, p1, p2, p3, p4, -, -, -, p9, p10⟩ := (bx3.out.2.1.grown (World.grownBy_alloc _ _ none) (by simp)).grown hg4 (hne4.out _ (by omega)) |>.c) | (go_simp; go_at_call 31; refine (call7.out _ (by rfl) (by rfl) (by rfl) (by rfl)).mono ?_; rintro e w3 ⟨t0, st3, a7, a8, c7, c8, rfl, hv3, hT3, hl3, ht3, hr3, hg3⟩; have hsz3 : w.heap.size + 2 ≤ w3.heap.size := Nat.le_trans D.out.2.2.2.1.lt hg3.size; have bx3 : Hid (BoxIs w3 w.heap.size (.int .i64 0) (.int .i64 0) (.string ⟨#[]⟩) (.slice none 0 0) (.slice none 0 0) ∧ BoxIs w3 (w.heap.size + 1) (.int .i64 4) (.int .i64 0) (.string ⟨#[]⟩) (.slice none 0 0) (.slice (some ⟨g0, 0, none⟩) acc.length cap0) ∧ w3.ownsRow (w.heap.size + 2) 25 5 (.slice (some ⟨g0, 0, none⟩) acc.length cap0) acc.length cs) := ⟨D.out.2.2.1.grown hg3 (by simp; omega), D.out.2.2.2.1.grown hg3 (by simp; omega), own_kept' D.out.2.2.2.2.1 hg3 (by omega)⟩; have hne4 : Hid (∀ k, k < w.heap.size + 2 → some k ≠ (Value.slice (some ⟨g0, 0, none⟩) acc.length cap0).ownBlock) := (fun k hk e => by have := (bx3.out.2.2.lt k e.symm).1; omega); have k4 : ∀ o, (w3.alloc o).cell? ⟨w.heap.size + 1, 4, none⟩ = some (.slice (some ⟨g0, 0, none⟩) acc.length cap0) := fun o => (bx3.out.2.1.grown (World.grownBy_alloc w3 o none) (by simp)).c.2.2.2.2.1; have q4 := bx3.out.2.1.c.2.2.2.2.1; have V3 : Hid (_ ∧ _ ∧ _ ∧ _ ∧ _ ∧ _) := ⟨hv3, hT3, hl3, ht3, hr3, hg3⟩; clear hv3 hT3 hl3 ht3 hr3 hg3)))
          all_goals
            go_wp2_with fail
            obtain ⟨hv3, hT3, htg3, hl3, hr3, hg3⟩ := V3.out
            go_roundg (togo st3)
            case measure => exact htg3
            case rel =>
              refine listI_mk (g0 := g0) hbl bx3.out.1 bx3.out.2.1 bx3.out.2.2 (.inr rfl) (D.out.2.2.2.2.2.1.imp fun x v h => h.grown hg3 (fun k hk e => by simp at e; omega)) ?_ hT3.symm hl3 (by have := A.out.2.2.1; omega) hr3 (D.out.2.2.2.2.2.2.1.grown hg3 (by intro k hk; cases hk; exact hb4)) hb4 (gb_trans D.out.2.2.2.2.2.2.2 hg3) ho4 hg4 hgg4
              exact hv3.weak fun k hk => ⟨Nat.le_trans D.out.2.2.2.1.lt hk, fun e => by have := (D.out.2.2.2.2.1.lt g0 rfl).2; omega⟩
        | false =>
          have HM := hidI hm
          have R2 : Hid (RdSt w2 b s (st1.map (List.dropWhile isSp))) := by have := D.out.1; rw [if_neg (by rw [hm]; simp)] at this; exact this
          clear hm
          go_wp2_with fail
          refine (need_st _ b s _ 93 93 rfl (by decide) (by exact R2.out)).mono ?_
          rintro e w3 ⟨rfl, h3, hg3⟩
          have E : Hid (RdSt w3 b s ((st1.map (List.dropWhile isSp)).bind (markS 93)) ∧ w.grownBy w3 (some b) ∧ BoxIs w3 w.heap.size (.int .i64 0) (.int .i64 0) (.string ⟨#[]⟩) (.slice none 0 0) (.slice none 0 0) ∧ BoxIs w3 (w.heap.size + 1) (.int .i64 4) (.int .i64 0) (.string ⟨#[]⟩) (.slice none 0 0) (.slice (some ⟨g0, 0, none⟩) acc.length cap0) ∧ w3.ownsRow (w.heap.size + 2) 25 5 (.slice (some ⟨g0, 0, none⟩) acc.length cap0) acc.length cs ∧ RowV (VIs w3 (fun k => w.heap.size + 2 ≤ k ∧ k ≠ g0) f) acc cs) := by
            obtain ⟨d1, d2, bxC, bxA, ho, hrow, hGr, hg⟩ := D.out
            exact ⟨h3, gb_trans hg hg3, bxC.grown hg3 (by simp; omega), bxA.grown hg3 (by simp; omega), own_kept' ho hg3 (by omega), hrow.imp (fun x v h => h.grown hg3 (fun k hk e => by simp at e; omega))⟩
          clear h3 hg3 x0 x1 x2 x3 x4 y0 y1 y2 y3 y4 p0 p1 p2 p3 p4 p9 p10
          obtain ⟨x0, x1, x2, x3, x4, y0, y1, y2, y3, y4⟩ := E.out.2.2.1.c
          obtain ⟨p0, p1, p2, p3, p4, -⟩ := E.out.2.2.2.1.c
          obtain ⟨z0, z1, z2, z3, z4, -⟩ := (E.out.2.2.1.set (.int .i64 4) (.int .i64 0) (.string ⟨#[]⟩) (.slice none 0 0) (.slice (some ⟨g0, 0, none⟩) acc.length cap0)).c
          have Z : Hid (_ ∧ _ ∧ _ ∧ _ ∧ _) := ⟨z0, z1, z2, z3, z4⟩
          clear z0 z1 z2 z3 z4
          go_wp2_with fail
          obtain ⟨z0, z1, z2, z3, z4⟩ := Z.out
          refine bodyPost_ret (v := .agg #[.int .i64 4, .int .i64 0, .string ⟨#[]⟩, .slice none 0 0, .slice (some ⟨g0, 0, none⟩) acc.length cap0]) ?_ rfl ?_
          · simp only [set5] at z0 z1 z2 z3 z4
            simp [results, Tryz.results44, go_sem, z0, z1, z2, z3, z4]
          · obtain ⟨e1, e2, e3, e4, e5, e6⟩ := E.out
            have g5 := set5_gb w3 w.heap.size (.int .i64 4) (.int .i64 0) (.string ⟨#[]⟩) (.slice none 0 0) (.slice (some ⟨g0, 0, none⟩) acc.length cap0)
            refine ⟨⟨4, 0, [], [], acc⟩, (st1.map (List.dropWhile isSp)).bind (markS 93), none, some ⟨g0, 0, none⟩, 0, cap0, rfl, ?_, ?_, ?_, ?_⟩
            · refine ⟨_, _, rfl, by unfold I64; simp, by unfold I64; simp, by simp, ⟨by simp, .inl ⟨rfl, none, rfl⟩⟩, ?_⟩
              have e6' : RowV (VIs (set5 w3 w.heap.size (.int .i64 4) (.int .i64 0) (.string ⟨#[]⟩) (.slice none 0 0) (.slice (some ⟨g0, 0, none⟩) acc.length cap0)) (fun k => w.heap.size ≤ k) f) acc cs :=
                e6.imp fun x v h => (h.grown g5 (fun k hk e => by simp at e; omega)).weak fun k hk => by omega
              exact own_vals rfl (own_kept' e5 g5 (by omega)) e6' (fun k hk => by omega) (by unfold maxLen; simp only; omega)
            · rw [← A.out.2.1, items_end HM.out]
            · exact e1.of_heap (g5.block b e1.lt (by simp; omega))
            · exact gb_own e2 g5 (by intro k hk; cases hk; exact Nat.le_refl _)
end Go.Proofs.YtfbddgpekbhpfacGreatDoor
