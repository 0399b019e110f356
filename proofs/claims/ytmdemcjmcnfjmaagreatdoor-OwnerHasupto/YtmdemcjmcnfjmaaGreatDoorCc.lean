/- What Member of package json does. -/
import Derived.Test.YtmdemcjmcnfjmaaGreatDoorCb
set_option linter.unusedSimpArgs false
set_option linter.unusedVariables false
namespace Go.Proofs.YtmdemcjmcnfjmaaGreatDoor
open Go.RowKit

theorem findV_some {t : V} {key : List UInt8} {i : Nat} (h : findV t key = some i) : pairedV t = true ∧ idxL key t.keys = some i ∧ i < t.l.length ∧ i < t.keys.length := by
  unfold findV at h
  split at h
  · rename_i hp
    have h9 := (idxL_lt h).1
    have : t.keys.length = t.l.length := by
      simp only [pairedV, Bool.and_eq_true, decide_eq_true_eq] at hp; exact hp.2
    exact ⟨hp, h, by omega, h9⟩
  · cases h

theorem box_bel {w w' : World} (hb : Below w.heap.size w w') {g : Nat} {c0 c1 c2 c3 c4 : Value} (h : BoxIs w g c0 c1 c2 c3 c4) : BoxIs w' g c0 c1 c2 c3 c4 := h.grown (gb_below (r := none) hb) (by simp)
theorem gb_set5 {a w : World} {r : Option Nat} {g : Nat} (h : a.grownBy w r) (hg : a.heap.size ≤ g) (d0 d1 d2 d3 d4 : Value) : a.grownBy (set5 w g d0 d1 d2 d3 d4) r := by
  have k := set5_gb w g d0 d1 d2 d3 d4
  exact ⟨k.os.trans h.os, k.tape.trans h.tape, k.output.trans h.output, Nat.le_trans h.size k.size, fun i hi hr => (k.block i (Nat.lt_of_lt_of_le hi h.size) (fun e => by cases e; omega)).trans (h.block i hi hr)⟩

theorem VIs.agg {w : World} {ok : Nat → Prop} {d : Nat} {t : V} {v0 v1 v2 v3 v4 : Value} (h : VIs w ok d t (.agg #[v0, v1, v2, v3, v4])) :
    v0 = .int .i64 t.kind ∧ v1 = .int .i64 t.n ∧ v2 = .string ⟨t.s.toArray⟩ ∧ (∃ a c, v3 = .slice a t.keys.length c) ∧ ∃ a c, v4 = .slice a t.l.length c := by
  match d, h with
  | d + 1, h =>
    obtain ⟨ks, ls, e, h1, h2, h3, h4, h5⟩ := h
    simp only [Value.agg.injEq, Array.mk.injEq, List.cons.injEq, and_true] at e
    obtain ⟨rfl, rfl, rfl, rfl, rfl⟩ := e
    exact ⟨rfl, rfl, rfl, h4.form, h5.form⟩

/- What Member answers of a member that may be there. -/
def MemIs (w : World) (ok : Nat → Prop) (d : Nat) (m : Option V) (x : Value) (b : Bool) : Prop :=
  match m with
  | some y => b = true ∧ VIs w ok d y x
  | none => b = false ∧ x = leaf 0 0 []

set_option maxRecDepth 100000 in
set_option maxHeartbeats 400000 in
theorem member_at (w : World) (ok : Nat → Prop) (d : Nat) (t : V) (v : Value) (key : List UInt8) (h : VIs w ok d t v) :
    Calls Tryz.prog 38 #[v, str key] w fun e w' => ∃ x b, e = .returned (.tuple #[x, .bool b]) ∧ Below w.heap.size w w' ∧ MemIs w' ok d (memV t key) x b := by
  have H := hidI h
  match d, h with
  | d + 1, h =>
    obtain ⟨ks, ls, rfl, h1, h2, h3, h4, h5⟩ := h
    have K5 := hidI h5
    obtain ⟨a1, c1, rfl⟩ := h4.form
    obtain ⟨a2, c2, hls⟩ := h5.form
    have l1 := h4.1
    have l2 := h5.1
    unfold maxLen at l1 l2 h3
    unfold str
    clear h4 h5 h1 h2
    cases hf : findV t key with
    | none =>
      have F := hidI hf
      subst hls
      clear hf
      go_enter Tryz.func38, Tryz.ntmps38
      go_wp2_with fail
      refine (find_at _ ok _ t _ key (by exact H.out.bel (bel_trans (bel_alloc _ _) (bel_alloc _ _)))).mono ?_
      rintro e w1 ⟨rfl, hb1⟩
      rw [F.out]
      have B1 := hidI hb1
      have hbx : BoxIs w1 (w.heap.size + 1) (.int .i64 0) (.int .i64 0) (.string ⟨#[]⟩) (.slice none 0 0) (.slice none 0 0) := by
        exact box_bel hb1 (h2b w _ _)
      obtain ⟨x0, x1, x2, x3, x4, y0, y1, y2, y3, y4⟩ := hbx.c
      obtain ⟨z0, z1, z2, z3, z4, -⟩ := (hbx.set (.int .i64 0) (.int .i64 0) (str []) (.slice none 0 0) (.slice none 0 0)).c
      have Z : Hid (_ ∧ _ ∧ _ ∧ _ ∧ _) := ⟨z0, z1, z2, z3, z4⟩
      clear z0 z1 z2 z3 z4 hb1
      unfold optI
      go_wp2_with fail
      obtain ⟨z0, z1, z2, z3, z4⟩ := Z.out
      refine bodyPost_ret (v := .tuple #[leaf 0 0 [], .bool false]) ?_ rfl ?_
      · simp only [set5, str] at z0 z1 z2 z3 z4
        simp [results, Tryz.results38, go_sem, z0, z1, z2, z3, z4, leaf, str]
      · refine ⟨_, _, rfl, ?_, ?_⟩
        · exact gb_none (gb_set5 (gb_trans (gb_alloc (gb_alloc (gb_refl _ _) _) _) (gb_below B1.out)) (Nat.le_succ _) _ _ _ _ _)
        · simp [MemIs, memV, F.out]
    | some i =>
      obtain ⟨f1, f2, f3, f4⟩ := findV_some hf
      have F := hidI hf
      clear hf f1 f2
      obtain ⟨_, K5'⟩ := K5.out
      rcases K5' with ⟨e, _⟩ | ⟨b, off, c, hls', hc1, hc2, hcs⟩
      · rw [e] at f3; simp at f3
      · subst hls'
        obtain ⟨v0, v1, v2, v3, v4, g, g0, g1, g2, g3, g4, g5⟩ := hcs i t.l[i] (List.getElem?_eq_getElem f3)
        go_enter Tryz.func38, Tryz.ntmps38
        go_wp2_with fail
        refine (find_at _ ok _ t _ key (by exact H.out.bel (bel_trans (bel_alloc _ _) (bel_alloc _ _)))).mono ?_
        rintro e w1 ⟨rfl, hb1⟩
        rw [F.out]
        have B1 := hidI hb1
        have hbx : BoxIs w1 (w.heap.size + 1) (.int .i64 0) (.int .i64 0) (.string ⟨#[]⟩) (.slice none 0 0) (.slice none 0 0) := by
          exact box_bel hb1 (h2b w _ _)
        obtain ⟨x0, x1, x2, x3, x4, y0, y1, y2, y3, y4⟩ := hbx.c
        obtain ⟨z0, z1, z2, z3, z4, -⟩ := (hbx.set v0 v1 v2 v3 v4).c
        have Z : Hid (_ ∧ _ ∧ _ ∧ _ ∧ _) := ⟨z0, z1, z2, z3, z4⟩
        have hbv : BoxIs w1 w.heap.size (.int .i64 t.kind) (.int .i64 t.n) (.string ⟨t.s.toArray⟩) (.slice a1 t.keys.length c1) (.slice (some ⟨b, off, none⟩) t.l.length c2) := box_bel hb1 (h2a w _ _)
        obtain ⟨-, -, -, -, q4, -⟩ := hbv.c
        have hb0 : Below w.heap.size w w1 := bel_trans (bel_trans (bel_alloc _ _) (bel_alloc _ _)) hb1
        have g0' := cell_bel hb0 g0
        have g1' := cell_bel hb0 g1
        have g2' := cell_bel hb0 g2
        have g3' := cell_bel hb0 g3
        have g4' := cell_bel hb0 g4
        have G5 := hidI g5
        obtain ⟨rfl, rfl, rfl, ⟨a5, c5, rfl⟩, ⟨a6, c6, rfl⟩⟩ := g5.agg
        clear z0 z1 z2 z3 z4 hb1 hb0 g0 g1 g2 g3 g4 g5 hcs hbv hbx
        unfold optI
        have i0 : ¬ ((i : Int) < 0) := by omega
        go_wp2_with fail
        obtain ⟨z0, z1, z2, z3, z4⟩ := Z.out
        refine bodyPost_ret (v := .tuple #[.agg #[.int .i64 t.l[i].kind, .int .i64 t.l[i].n, .string ⟨t.l[i].s.toArray⟩, .slice a5 t.l[i].keys.length c5, .slice a6 t.l[i].l.length c6], .bool true]) ?_ rfl ?_
        · simp only [set5] at z0 z1 z2 z3 z4
          simp [results, Tryz.results38, go_sem, z0, z1, z2, z3, z4]
        · have hb9 : Below w.heap.size w (set5 w1 (w.heap.size + 1) (.int .i64 t.l[i].kind) (.int .i64 t.l[i].n) (.string ⟨t.l[i].s.toArray⟩) (.slice a5 t.l[i].keys.length c5) (.slice a6 t.l[i].l.length c6)) :=
            gb_none (gb_set5 (gb_trans (gb_alloc (gb_alloc (gb_refl _ _) _) _) (gb_below B1.out)) (Nat.le_succ _) _ _ _ _ _)
          refine ⟨_, _, rfl, hb9, ?_⟩
          have hm : memV t key = some t.l[i] := by simp [memV, F.out, List.getElem?_eq_getElem f3]
          rw [hm]
          exact ⟨rfl, (G5.out.bel hb9).succ⟩
end Go.Proofs.YtmdemcjmcnfjmaaGreatDoor
