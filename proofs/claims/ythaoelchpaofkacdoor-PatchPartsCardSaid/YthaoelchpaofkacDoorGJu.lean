/- All or none: PatchWhole, if Same of package json does what is said of it. -/
import Derived.Test.YthaoelchpaofkacDoorYg
/- What test and One of package patch do, if Same of package json does what is said of it. -/
set_option linter.unusedSimpArgs false
set_option linter.unusedVariables false
namespace Go.Proofs.YthaoelchpaofkacDoor
open Go.RowKit

/- What is said of Same. -/
def SameJ : Prop := ∀ (w : World) (ok ok' : Nat → Prop) (a b : V) (va vb : Value), In w ok a va → In w ok' b vb → Nice a →
    Calls Tryd.prog 50 #[va, vb] w fun e w' => ∃ r, e = .returned (.bool r) ∧ (r = true ↔ a = b) ∧ Below w.heap.size w w'
open Classical in
noncomputable def testR (t : V) (p : List UInt8) (x : V) : Int := if (getR (splitP p) t).2 ≠ 0 then (getR (splitP p) t).2 else if (getR (splitP p) t).1 = x then 0 else 4

set_option maxRecDepth 100000 in
set_option maxHeartbeats 40000000 in
theorem test_is (hS : SameJ) (w : World) (ok : Nat → Prop) (t x : V) (v xv : Value) (p : List UInt8) (h : In w ok t v) (hx : In w ok x xv) (hp : p.length ≤ 140737488351232) (hM : GlobM w) :
    Calls Tryd.prog 31 #[v, str p, xv] w fun e w' => e = .returned (.int .i64 (testR t p x)) ∧ Below w.heap.size w w' := by
  have H := hidI h
  have HX := hidI hx
  have HS := hidI hS
  have HMM := hidI hM
  obtain ⟨l1, l2, l3⟩ := h.lens
  obtain ⟨a1, a2, c1, c2, rfl⟩ := h.form
  obtain ⟨a7, a8, c7, c8, rfl⟩ := hx.form
  clear h hx hM hS
  have B2 : Hid (∀ o1 o2, Below w.heap.size w ((w.alloc o1).alloc o2)) := fun o1 o2 => bel_trans (bel_alloc _ _) (bel_alloc _ _)
  go_enter Tryd.func31, Tryd.ntmps31
  go_wp2_with fail
  refine (get_is _ ok t _ p (by exact H.out.bel (B2.out _ _)) hp (by exact HMM.out.bel (B2.out _ _))).mono ?_
  rintro e w1 ⟨r, rfl, hb1, hr⟩
  obtain ⟨g, hg⟩ : ∃ g, getR (splitP p) t = g := ⟨_, rfl⟩
  rw [hg] at hr ⊢
  obtain ⟨y, ye⟩ := g
  simp only at hr ⊢
  obtain ⟨a5, a6, c5, c6, rfl⟩ := hr.form
  have HG := hidI hg
  have hbb := bel_trans hb1 (bel_alloc w1 (.cells #[.int .i64 y.kind, .int .i64 y.n, .string ⟨y.s.toArray⟩, .slice a5 y.keys.length c5, .slice a6 y.l.length c6] 25))
  have K : Hid (BoxIs (w1.alloc (.cells #[.int .i64 y.kind, .int .i64 y.n, .string ⟨y.s.toArray⟩, .slice a5 y.keys.length c5, .slice a6 y.l.length c6] 25)) (w.heap.size + 1) (.int .i64 x.kind) (.int .i64 x.n) (.string ⟨x.s.toArray⟩) (.slice a7 x.keys.length c7) (.slice a8 x.l.length c8) ∧ BoxIs (w1.alloc (.cells #[.int .i64 y.kind, .int .i64 y.n, .string ⟨y.s.toArray⟩, .slice a5 y.keys.length c5, .slice a6 y.l.length c6] 25)) w1.heap.size (.int .i64 y.kind) (.int .i64 y.n) (.string ⟨y.s.toArray⟩) (.slice a5 y.keys.length c5) (.slice a6 y.l.length c6) ∧ In (w1.alloc (.cells #[.int .i64 y.kind, .int .i64 y.n, .string ⟨y.s.toArray⟩, .slice a5 y.keys.length c5, .slice a6 y.l.length c6] 25)) ok y (.agg #[.int .i64 y.kind, .int .i64 y.n, .string ⟨y.s.toArray⟩, .slice a5 y.keys.length c5, .slice a6 y.l.length c6]) ∧ Below w.heap.size w (w1.alloc (.cells #[.int .i64 y.kind, .int .i64 y.n, .string ⟨y.s.toArray⟩, .slice a5 y.keys.length c5, .slice a6 y.l.length c6] 25))) := ⟨box_bel hbb (h2b w _ _), heap_alloc_new w1 _, hr.bel (bel_alloc _ _), bel_trans (B2.out _ _) hbb⟩
  clear hg hr hb1 hbb
  by_cases hye : ye = 0
  · subst hye
    have hnice : Hid (Nice y) := hidI (by obtain ⟨q1, q2, q3⟩ := get_good HG.out; exact nice_get _ _ _ (nice_of q1) q3)
    obtain ⟨p0, p1, p2, p3, p4, -⟩ := K.out.1.c
    obtain ⟨r0, r1, r2, r3, r4, -⟩ := K.out.2.1.c
    go_wp2_with fail
    refine (HS.out _ ok ok y x _ _ (by exact K.out.2.2.1) (by exact HX.out.bel K.out.2.2.2) hnice.out).mono ?_
    rintro e w2 ⟨b, rfl, hbi, hb2⟩
    have B3 := hidI (bel_trans K.out.2.2.2 hb2)
    clear hb2 p0 p1 p2 p3 p4 r0 r1 r2 r3 r4 K
    cases b with
    | true =>
      have HR : Hid (testR t p x = 0) := hidI (by unfold testR; rw [HG.out]; simp [hbi.1 rfl])
      clear hbi
      go_wp2_with fail
      go_ret
      exact ⟨by rw [HR.out]; rfl, B3.out⟩
    | false =>
      have HR : Hid (testR t p x = 4) := hidI (by
        have : ¬ y = x := fun e => by have := hbi.2 e; cases this
        unfold testR; rw [HG.out]; simp [this])
      clear hbi
      go_wp2_with fail
      go_ret
      exact ⟨by rw [HR.out]; rfl, B3.out⟩
  · have e1 : (ye != 0) = true := by rw [bne_iff_ne]; exact hye
    have e2 : (ye == 0) = false := by rw [beq_eq_false_iff_ne]; exact hye
    have HR : Hid (testR t p x = ye) := hidI (by unfold testR; rw [HG.out]; simp [hye])
    clear hye
    go_wp2_with fail
    go_ret
    exact ⟨by rw [HR.out]; rfl, K.out.2.2.2⟩

set_option maxRecDepth 100000 in
set_option maxHeartbeats 40000000 in
theorem one_test (hS : SameJ) (o : OpT) (t : V) (hk : o.kind = 6) : OneAt (t, testR t o.path o.value) o t := by
  intro w ok v ov h ho hM
  have H := hidI h.low
  have HMM := hidI hM
  have HS := hidI hS
  obtain ⟨l1, l2, l3⟩ := h.lens
  obtain ⟨a1, a2, c1, c2, rfl⟩ := h.form
  obtain ⟨o1, o2, o3, a7, a8, c7, c8, rfl, hx⟩ := ho
  have HX := hidI hx.low
  have q1 : (o.kind == 1) = false := by rw [hk]; rfl
  have q2 : (o.kind == 2) = false := by rw [hk]; rfl
  have q3 : (o.kind == 3) = false := by rw [hk]; rfl
  have q4 : (o.kind == 4) = false := by rw [hk]; rfl
  have q5 : (o.kind == 5) = false := by rw [hk]; rfl
  have q6 : (o.kind == 6) = true := by rw [hk]; rfl
  clear h hM hx hk hS
  have con : Hid (∀ W, W.heap = (((w.alloc (.cells #[.int .i64 t.kind, .int .i64 t.n, .string ⟨t.s.toArray⟩, .slice a1 t.keys.length c1, .slice a2 t.l.length c2] 25)).alloc (.cells #[.int .i64 o.kind, .string ⟨o.path.toArray⟩, .string ⟨o.frm.toArray⟩, .int .i64 o.value.kind, .int .i64 o.value.n, .string ⟨o.value.s.toArray⟩, .slice a7 o.value.keys.length c7, .slice a8 o.value.l.length c8] 39)).alloc (.cells #[.int .i64 0, .int .i64 0, .string ⟨#[]⟩, .slice none 0 0, .slice none 0 0] 25)).heap → W.os = w.os → W.tape = w.tape → W.output = w.output →
      Calls Tryd.prog 31 #[.agg #[.int .i64 t.kind, .int .i64 t.n, .string ⟨t.s.toArray⟩, .slice a1 t.keys.length c1, .slice a2 t.l.length c2], .string ⟨o.path.toArray⟩, .agg #[.int .i64 o.value.kind, .int .i64 o.value.n, .string ⟨o.value.s.toArray⟩, .slice a7 o.value.keys.length c7, .slice a8 o.value.l.length c8]] W fun e w' => e = .returned (.int .i64 (testR t o.path o.value)) ∧ BoxIs w' w.heap.size (.int .i64 t.kind) (.int .i64 t.n) (.string ⟨t.s.toArray⟩) (.slice a1 t.keys.length c1) (.slice a2 t.l.length c2) ∧ BoxIs w' (w.heap.size + 2) (.int .i64 0) (.int .i64 0) (.string ⟨#[]⟩) (.slice none 0 0) (.slice none 0 0) ∧ Below w.heap.size w w') := by
    intro W e1 e2 e3 e4
    have hbW := bel_of3 e1 e2 e3 e4
    refine (test_is HS.out W (fun k => ok k ∧ k < w.heap.size) t o.value _ _ o.path (H.out.bel hbW) (HX.out.bel hbW) o2 (HMM.out.bel hbW)).mono ?_
    rintro e w' ⟨rfl, hb⟩
    exact ⟨rfl, box_bel hb (by unfold BoxIs; rw [e1]; exact h3a w _ _ _), box_bel hb (by unfold BoxIs; rw [e1]; exact h3c w _ _ _), bel_trans hbW hb⟩
  go_enter Tryd.func16, Tryd.ntmps16
  go_upto_region 13 with fail
  go_region_with ((go_at_call 31; refine (con.out _ (by rfl) (by rfl) (by rfl) (by rfl)).mono ?_; rintro e w2 ⟨rfl, k1, k2, k3⟩; obtain ⟨p0, p1, p2, p3, p4, -⟩ := k1.c; obtain ⟨x0, x1, x2, x3, x4, y0, y1, y2, y3, y4⟩ := k2.c; have Z := hidI (set_out (C := w2.heap.size) (g := w.heap.size + 2) ((H.out.bel k3).weak (lowN_low (C := w2.heap.size))) k3 (by omega) k2.lt); have ZB := hidI (k2.set (.int .i64 t.kind) (.int .i64 t.n) (.string ⟨t.s.toArray⟩) (.slice a1 t.keys.length c1) (.slice a2 t.l.length c2)); clear k1 k2 k3))
  all_goals
    go_wp2_with fail
    obtain ⟨z0, z1, z2, z3, z4, -⟩ := ZB.out.c
    refine bodyPost_ret (v := .tuple #[.agg #[.int .i64 t.kind, .int .i64 t.n, .string ⟨t.s.toArray⟩, .slice a1 t.keys.length c1, .slice a2 t.l.length c2], .int .i64 (testR t o.path o.value)]) ?_ rfl ?_
    · simp only [set5] at z0 z1 z2 z3 z4
      simp [results, Tryd.results16, go_sem, z0, z1, z2, z3, z4]
    · exact ⟨_, rfl, Z.out.1, Z.out.2⟩

/- What One answers. -/
noncomputable def oneR (t : V) (o : OpT) : V × Int :=
  if o.kind = 1 then layR addedV o.path (splitP o.path) t o.value else if o.kind = 2 then changeR removedV (splitP o.path) t else if o.kind = 3 then layR replacedV o.path (splitP o.path) t o.value
  else if o.kind = 4 then movedR t o.frm o.path else if o.kind = 5 then copiedR t o.frm o.path else if o.kind = 6 then (t, testR t o.path o.value) else (t, 9)
theorem one_is (hS : SameJ) (t : V) (o : OpT) : OneAt (oneR t o) o t := by
  unfold oneR
  split
  · exact one_add o t (by assumption)
  split
  · exact one_remove o t (by assumption)
  split
  · exact one_replace o t (by assumption)
  split
  · exact one_move o t (by assumption)
  split
  · exact one_copy o t (by assumption)
  split
  · exact one_test hS o t (by assumption)
  · refine one_other o t fun i h1 h2 => ?_
    rcases (show i = 1 ∨ i = 2 ∨ i = 3 ∨ i = 4 ∨ i = 5 ∨ i = 6 by omega) with rfl | rfl | rfl | rfl | rfl | rfl <;> assumption
theorem all_ok (hS : SameJ) : ∀ (os : List OpT) (t : V), AllOk oneR os t
  | [], _ => trivial
  | o :: os, t => ⟨one_is hS t o, fun _ => all_ok hS os _⟩
/- What is done is good. -/
theorem one_good {t z : V} {o : OpT} (h : oneR t o = (z, 0)) : goodV z = true := by
  unfold oneR at h
  split at h
  · exact (lay_ok h).2.2.1
  split at h
  · exact (change_ok h).2.2.2.2
  split at h
  · exact (lay_ok h).2.2.1
  split at h
  · unfold movedR at h
    split at h
    · rename_i h0; simp only [Prod.mk.injEq] at h; exact absurd h.2 h0
    · rename_i h0
      simp only [ne_eq, Decidable.not_not] at h0
      split at h
      · simp at h
      · split at h
        · simp only [Prod.mk.injEq, and_true] at h
          subst h
          exact (get_good (show getR (splitP o.frm) _ = ((getR (splitP o.frm) _).1, 0) by rw [← h0])).1
        · split at h
          · rename_i h1; simp only [Prod.mk.injEq] at h; exact absurd h.2 h1
          · split at h
            · rename_i h1; simp only [Prod.mk.injEq] at h; exact absurd h.2 h1
            · rename_i h2
              simp only [ne_eq, Decidable.not_not] at h2
              simp only [Prod.mk.injEq, and_true] at h
              exact (lay_ok (w := z) (by rw [← h, ← h2])).2.2.1
  split at h
  · unfold copiedR at h
    split at h
    · rename_i h0; simp only [Prod.mk.injEq] at h; exact absurd h.2 h0
    · exact (lay_ok h).2.2.1
  split at h
  · simp only [Prod.mk.injEq] at h
    obtain ⟨rfl, h⟩ := h
    unfold testR at h
    split at h
    · rename_i h0; exact absurd h h0
    · rename_i h0
      simp only [ne_eq, Decidable.not_not] at h0
      exact (get_good (show getR (splitP o.path) t = ((getR (splitP o.path) t).1, 0) by rw [← h0])).1
  · simp at h
theorem run_good : ∀ (os : List OpT) (t z : V), os ≠ [] → runR oneR os t = (z, 0) → goodV z = true
  | [], _, _, h, _ => absurd rfl h
  | [o], t, z, _, h => by
    simp only [runR] at h
    split at h
    · rename_i h0; simp only [Prod.mk.injEq] at h; exact absurd h.2 h0
    · rename_i h0
      simp only [ne_eq, Decidable.not_not] at h0
      simp only [Prod.mk.injEq, and_true] at h
      exact one_good (o := o) (t := t) (by rw [← h, ← h0])
  | o :: o' :: os, t, z, _, h => by
    rw [runR] at h
    split at h
    · rename_i h0; simp only [Prod.mk.injEq] at h; exact absurd h.2 h0
    · exact run_good (o' :: os) _ z (by simp) h
end Go.Proofs.YthaoelchpaofkacDoor

/- What patches of package stairwellkeep does. -/
set_option linter.unusedSimpArgs false
set_option linter.unusedVariables false
namespace Go.Proofs.YthaoelchpaofkacDoor
open Go.RowKit

def paO1 : OpT := ⟨1, [47, 45], [], ⟨1, 0, [], [], []⟩⟩
def paO2 : OpT := ⟨5, [47, 48], [47, 48], ⟨0, 0, [], [], []⟩⟩
def paT : V := ⟨4, 0, [], [], []⟩
def paT1 : V := ⟨4, 0, [], [], [⟨1, 0, [], [], []⟩]⟩
def paT2 : V := ⟨4, 0, [], [], [⟨1, 0, [], [], []⟩, ⟨1, 0, [], [], []⟩]⟩
def paF (t : V) (o : OpT) : V × Int := if o.kind = 1 then layR addedV o.path (splitP o.path) t o.value else copiedR t o.frm o.path
theorem pa_split1 : splitP [47, 45] = ([[45]], 0) := by
  have e : joinP [[45]] = [47, 45] := by unfold joinP; rw [List.flatMap_cons, marked_eq]; rfl
  have := split_join [[45]] (by rw [e]; decide)
  rwa [e] at this
theorem pa_split2 : splitP [47, 48] = ([[48]], 0) := by
  have e : joinP [[48]] = [47, 48] := by unfold joinP; rw [List.flatMap_cons, marked_eq]; rfl
  have := split_join [[48]] (by rw [e]; decide)
  rwa [e] at this
theorem pa_step1 : paF paT paO1 = (paT1, 0) := by
  show layR addedV [47, 45] (splitP [47, 45]) paT ⟨1, 0, [], [], []⟩ = _
  rw [pa_split1]
  kernel_rfl
theorem pa_get : getR (splitP paO2.frm) paT1 = (⟨1, 0, [], [], []⟩, 0) := by
  show getR (splitP [47, 48]) paT1 = _
  rw [pa_split2]
  kernel_rfl
theorem pa_step2 : paF paT1 paO2 = (paT2, 0) := by
  show copiedR paT1 paO2.frm [47, 48] = _
  unfold copiedR
  rw [pa_get]
  show layR addedV [47, 48] (splitP [47, 48]) paT1 ⟨1, 0, [], [], []⟩ = _
  rw [pa_split2]
  kernel_rfl
theorem pa_all : allR paF [paO1, paO2] paT = (paT2, 0) := by
  unfold allR
  have e : runR paF [paO1, paO2] paT = (paT2, 0) := by simp [runR, pa_step1, pa_step2]
  rw [if_neg (by simp), e]
  simp
theorem pa_ok : AllOk paF [paO1, paO2] paT := by
  refine ⟨one_add paO1 paT rfl, fun _ => ?_⟩
  rw [pa_step1]
  refine ⟨?_, fun _ => trivial⟩
  exact one_copy paO2 paT1 rfl
theorem pa_i64 (n : Int) (h1 : 0 ≤ n) (h2 : n ≤ 100) : I64 n := by unfold I64; omega
theorem cell_block {w : World} {b : Nat} {cs : Array Value} {t : TypeId} (h : w.heap[b]? = some (.cells cs t)) (i : Nat) : w.cell? ⟨b, i, none⟩ = cs[i]? := by
  simp [World.cell?, h]
theorem pa_ops (w : World) (o : Obj) (ho : o = .cells #[.int .i64 1, .string ⟨#[47, 45]⟩, .string ⟨#[]⟩, .int .i64 1, .int .i64 0, .string ⟨#[]⟩, .slice none 0 0, .slice none 0 0, .int .i64 5, .string ⟨#[47, 48]⟩, .string ⟨#[47, 48]⟩, .int .i64 0, .int .i64 0, .string ⟨#[]⟩, .slice none 0 0, .slice none 0 0] 39) :
    OpsAre (w.alloc o) (fun _ => True) [paO1, paO2] (.slice (some ⟨w.heap.size, 0, none⟩) 2 2) := by
  have hb := heap_alloc_new w o
  have c : ∀ i, (w.alloc o).cell? ⟨w.heap.size, i, none⟩ = (#[Value.int .i64 1, .string ⟨#[47, 45]⟩, .string ⟨#[]⟩, .int .i64 1, .int .i64 0, .string ⟨#[]⟩, .slice none 0 0, .slice none 0 0, .int .i64 5, .string ⟨#[47, 48]⟩, .string ⟨#[47, 48]⟩, .int .i64 0, .int .i64 0, .string ⟨#[]⟩, .slice none 0 0, .slice none 0 0] : Array Value)[i]? := by
    intro i
    rw [ho] at hb ⊢
    exact cell_block hb i
  refine ⟨by simp, .inr ⟨w.heap.size, 0, 2, rfl, by simp, by simp, fun i o' h => ?_⟩⟩
  match i, h with
  | 0, h =>
    simp only [List.getElem?_cons_zero, Option.some.injEq] at h
    subst h
    exact ⟨_, _, _, _, _, _, _, _, trivial, (c 0).trans rfl, (c 1).trans rfl, (c 2).trans rfl, (c 3).trans rfl, (c 4).trans rfl, (c 5).trans rfl, (c 6).trans rfl, (c 7).trans rfl, pa_i64 1 (by omega) (by omega), by decide, by decide, none, none, 0, 0, rfl, in_leaf _ _ 1 0 (pa_i64 _ (by omega) (by omega)) (pa_i64 _ (by omega) (by omega))⟩
  | 1, h =>
    simp only [List.getElem?_cons_succ, List.getElem?_cons_zero, Option.some.injEq] at h
    subst h
    exact ⟨_, _, _, _, _, _, _, _, trivial, (c 8).trans rfl, (c 9).trans rfl, (c 10).trans rfl, (c 11).trans rfl, (c 12).trans rfl, (c 13).trans rfl, (c 14).trans rfl, (c 15).trans rfl, pa_i64 5 (by omega) (by omega), by decide, by decide, none, none, 0, 0, rfl, in_leaf _ _ 0 0 (pa_i64 _ (by omega) (by omega)) (pa_i64 _ (by omega) (by omega))⟩

set_option maxRecDepth 100000 in
set_option maxHeartbeats 4000000 in
theorem patches_at (w : World) (hM : GlobM w) : Calls Tryd.prog 19 #[] w fun e w' => e = .returned (.bool true) ∧ Below w.heap.size w w' := by
  have HMM := hidI hM
  clear hM
  go_enter Tryd.func19, Tryd.ntmps19
  go_wp2_with fail
  refine (all_is paF _ (fun _ => True) paT [paO1, paO2] _ _ (by exact in_leaf _ _ 4 0 (pa_i64 _ (by omega) (by omega)) (pa_i64 _ (by omega) (by omega))) (by exact pa_ops w _ rfl) (by exact HMM.out.bel (bel_alloc _ _)) (fun _ => pa_ok)).mono ?_
  rintro e w1 ⟨r, rfl, hb1, hr⟩
  rw [pa_all] at hr ⊢
  simp only at hr ⊢
  obtain ⟨T, hT, hl⟩ : ∃ T, T = paT2 ∧ T.l.length = 2 := ⟨_, rfl, rfl⟩
  rw [← hT] at hr
  clear hT
  obtain ⟨a5, a6, c5, c6, rfl⟩ := hr.form
  have q2 : ((T.l.length : Int) == 2) = true := by rw [hl]; rfl
  have HB := hidI (bel_trans (bel_alloc w _) (bel_trans hb1 (bel_alloc w1 (.cells #[.int .i64 T.kind, .int .i64 T.n, .string ⟨T.s.toArray⟩, .slice a5 T.keys.length c5, .slice a6 T.l.length c6] 25))))
  obtain ⟨-, l2, -⟩ := hr.lens
  clear hb1 hr hl
  go_wp2_with fail
  go_ret
  exact ⟨rfl, HB.out⟩
end Go.Proofs.YthaoelchpaofkacDoor

set_option linter.unusedSimpArgs false
set_option linter.unusedVariables false
namespace Go.Proofs.YthaoelchpaofkacDoor
open Go.RowKit

theorem all_err {f : V → OpT → V × Int} {os : List OpT} {t z : V} {e : Int} (h : allR f os t = (z, e)) (he : e ≠ 0) : z = t := by
  unfold allR at h
  split at h
  · simp only [Prod.mk.injEq] at h; exact h.1.symm
  · split at h
    · simp only [Prod.mk.injEq] at h; exact h.1.symm
    · simp only [Prod.mk.injEq] at h; exact absurd h.2.symm he
theorem all_good {os : List OpT} {t z : V} (h : allR oneR os t = (z, 0)) : os = [] ∨ goodV z = true := by
  unfold allR at h
  split at h
  · simp at h
  · split at h
    · rename_i h0; simp only [Prod.mk.injEq] at h; exact absurd h.2 h0
    · rename_i h0
      simp only [ne_eq, Decidable.not_not] at h0
      simp only [Prod.mk.injEq, and_true] at h
      by_cases ho : os = []
      · exact .inl ho
      · exact .inr (run_good os t z ho (by rw [← h, ← h0]))

set_option maxRecDepth 100000 in
set_option maxHeartbeats 40000000 in
theorem patchWhole_walk (hS : SameJ) (w : World) (ok1 : Nat → Prop) (d1 : Nat) (t : V) (v : Value) (h1 : VIs w ok1 d1 t v) (os : List OpT) (ov : Value) (ho : OpsAre w (fun _ => True) os ov) (hM : GlobM w) :
    Calls Tryd.prog 5 #[v, ov] w fun e w' => e = .returned (.bool true) ∧ Below w.heap.size w w' := by
  have h : In w (fun _ => True) t v := h1.is.weak fun _ _ => trivial
  have H := hidI h
  have HMM := hidI hM
  have HO := hidI ho
  have HS := hidI hS
  have olen := ho.1
  obtain ⟨l1, l2, l3⟩ := h.lens
  obtain ⟨a1, a2, c1, c2, rfl⟩ := h.form
  obtain ⟨oa, oc, rfl⟩ := ho.form
  clear h hM h1 ho hS
  go_enter Tryd.func5, Tryd.ntmps5
  go_wp2_with fail
  refine (all_is oneR _ (fun _ => True) t os _ _ (by exact H.out.bel (bel_alloc _ _)) (by exact HO.out.bel (bel_alloc _ _)) (by exact HMM.out.bel (bel_alloc _ _)) (fun _ => all_ok HS.out os t)).mono ?_
  rintro e w1 ⟨r, rfl, hb1, hr⟩
  obtain ⟨g, hg⟩ : ∃ g, allR oneR os t = g := ⟨_, rfl⟩
  rw [hg] at hr ⊢
  obtain ⟨z, ze⟩ := g
  simp only at hr ⊢
  obtain ⟨a3, a4, c3, c4, rfl⟩ := hr.form
  have HG := hidI hg
  have hbb := bel_trans hb1 (bel_alloc w1 (.cells #[.int .i64 z.kind, .int .i64 z.n, .string ⟨z.s.toArray⟩, .slice a3 z.keys.length c3, .slice a4 z.l.length c4] 25))
  have K : Hid (BoxIs (w1.alloc (.cells #[.int .i64 z.kind, .int .i64 z.n, .string ⟨z.s.toArray⟩, .slice a3 z.keys.length c3, .slice a4 z.l.length c4] 25)) w.heap.size (.int .i64 t.kind) (.int .i64 t.n) (.string ⟨t.s.toArray⟩) (.slice a1 t.keys.length c1) (.slice a2 t.l.length c2) ∧ BoxIs (w1.alloc (.cells #[.int .i64 z.kind, .int .i64 z.n, .string ⟨z.s.toArray⟩, .slice a3 z.keys.length c3, .slice a4 z.l.length c4] 25)) w1.heap.size (.int .i64 z.kind) (.int .i64 z.n) (.string ⟨z.s.toArray⟩) (.slice a3 z.keys.length c3) (.slice a4 z.l.length c4) ∧ In (w1.alloc (.cells #[.int .i64 z.kind, .int .i64 z.n, .string ⟨z.s.toArray⟩, .slice a3 z.keys.length c3, .slice a4 z.l.length c4] 25)) (fun _ => True) z (.agg #[.int .i64 z.kind, .int .i64 z.n, .string ⟨z.s.toArray⟩, .slice a3 z.keys.length c3, .slice a4 z.l.length c4]) ∧ Below w.heap.size w (w1.alloc (.cells #[.int .i64 z.kind, .int .i64 z.n, .string ⟨z.s.toArray⟩, .slice a3 z.keys.length c3, .slice a4 z.l.length c4] 25))) := ⟨box_bel hbb (heap_alloc_new w _), heap_alloc_new w1 _, (hr.bel (bel_alloc _ _)).weak fun _ _ => trivial, bel_trans (bel_alloc _ _) hbb⟩
  clear hg hr hb1 hbb
  obtain ⟨p0, p1, p2, p3, p4, -⟩ := K.out.1.c
  obtain ⟨q0, q1, q2, q3, q4, -⟩ := K.out.2.1.c
  by_cases hze : ze = 0
  · subst hze
    by_cases hos : os = []
    · have e1 : ((os.length : Int) == 0) = true := by rw [hos]; rfl
      clear hos
      go_wp2_with fail
      refine (patches_at _ (by exact HMM.out.bel K.out.2.2.2)).mono ?_
      rintro e wp ⟨rfl, hb7⟩
      have B7 := hidI (bel_trans K.out.2.2.2 hb7)
      clear hb7
      go_wp2_with fail
      go_ret
      exact ⟨rfl, B7.out⟩
    · have e1 : ((os.length : Int) == 0) = false := by
        have : 0 < os.length := List.length_pos_iff.2 hos
        rw [beq_eq_false_iff_ne]; omega
      have HGD : Hid (goodV z = true) := hidI (by
        rcases all_good HG.out with h0 | h0
        · exact absurd h0 hos
        · exact h0)
      clear hos
      go_wp2_with fail
      refine (good_is _ (fun _ => True) z _ (by exact K.out.2.2.1)).mono ?_
      rintro e w2 ⟨rfl, hb2⟩
      rw [HGD.out]
      have B2 := hidI (bel_trans K.out.2.2.2 hb2)
      clear hb2 p0 p1 p2 p3 p4 q0 q1 q2 q3 q4 K
      go_wp2_with fail
      refine (patches_at _ (by exact HMM.out.bel B2.out)).mono ?_
      rintro e wp ⟨rfl, hb7⟩
      have B7 := hidI (bel_trans B2.out hb7)
      clear hb7
      go_wp2_with fail
      go_ret
      exact ⟨rfl, B7.out⟩
  · have e1 : (ze != 0) = true := by rw [bne_iff_ne]; exact hze
    have e2 : (ze == 0) = false := by rw [beq_eq_false_iff_ne]; exact hze
    have hzt := all_err HG.out hze
    subst hzt
    clear hze
    go_wp2_with fail
    refine (same_is _ (fun _ => True) (fun _ => True) z _ _ (by exact K.out.2.2.1) (by exact H.out.bel K.out.2.2.2)).mono ?_
    rintro e w2 ⟨rfl, hb2⟩
    have B2 := hidI (bel_trans K.out.2.2.2 hb2)
    clear hb2 p0 p1 p2 p3 p4 q0 q1 q2 q3 q4 K
    go_wp2_with fail
    refine (patches_at _ (by exact HMM.out.bel B2.out)).mono ?_
    rintro e wp ⟨rfl, hb7⟩
    have B7 := hidI (bel_trans B2.out hb7)
    clear hb7
    go_wp2_with fail
    go_ret
    exact ⟨rfl, B7.out⟩
end Go.Proofs.YthaoelchpaofkacDoor
