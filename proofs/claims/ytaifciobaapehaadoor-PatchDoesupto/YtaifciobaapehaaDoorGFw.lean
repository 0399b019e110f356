/- What WithMember of package stairwellref does. -/
import Derived.Test.YtaifciobaapehaaDoorGWp
import Derived.Test.YtaifciobaapehaaDoorXj
import Derived.Deep.RegionHeld3
import Derived.Deep.CutRange
/- What alter of package stairwellref does: on the way down. -/
set_option linter.unusedSimpArgs false
set_option linter.unusedVariables false
namespace Go.Proofs.YtaifciobaapehaaDoor
open Go.RowKit

/- What is done at the end of the path. -/
def altV (kind : Int) (x t : V) (s : List UInt8) : Option V := if kind = 1 then addedV x t s else if kind = 3 then replacedV x t s else removedV t s
/- What is said of alter. -/
def AltC (kind : Int) (ns : List (List UInt8)) : Prop := ∀ (w : World) (ok oks : Nat → Prop) (t x : V) (v xv nv : Value), In w ok t v → In w ok x xv → Nice t → StrsAre w oks ns nv →
    Calls Tryd.prog 31 #[.int .i64 kind, v, nv, xv] w fun e w' => ∃ r, e = .returned (.tuple #[r, .int .i64 (if (downV (altV kind x) ns t).isSome then 0 else 3)]) ∧ Below w.heap.size w w' ∧ In w' (okN ok w.heap.size) ((downV (altV kind x) ns t).getD t) r
/- Behind the call of alter itself. -/
def MidA (w : World) (ok : Nat → Prop) (t u : V) (m : Option V) (cd : Int) (a1 a2 : Option Addr) (c1 c2 C : Nat) (p q : Value) (wc : World) : Prop :=
  ∃ (y2 : V) (e5 e6 : Option Addr) (d5 d6 g : Nat), p = .pointer (some ⟨g, 0, none⟩) ∧ q = .int .i64 cd ∧ y2 = m.getD u ∧ BoxIs wc g (.int .i64 y2.kind) (.int .i64 y2.n) (.string ⟨y2.s.toArray⟩) (.slice e5 y2.keys.length d5) (.slice e6 y2.l.length d6) ∧ BoxIs wc w.heap.size (.int .i64 t.kind) (.int .i64 t.n) (.string ⟨t.s.toArray⟩) (.slice a1 t.keys.length c1) (.slice a2 t.l.length c2) ∧ BoxIs wc (w.heap.size + 2) (.int .i64 0) (.int .i64 0) (.string ⟨#[]⟩) (.slice none 0 0) (.slice none 0 0) ∧ Below w.heap.size w wc ∧ In wc (lowN ok w.heap.size C) y2 (.agg #[.int .i64 y2.kind, .int .i64 y2.n, .string ⟨y2.s.toArray⟩, .slice e5 y2.keys.length d5, .slice e6 y2.l.length d6])
theorem lowN_less {ok : Nat → Prop} {B C D : Nat} (h : C ≤ D) : ∀ k, lowN ok B D k → lowN ok B C k := by
  intro k hk
  rcases hk with hk | hk
  · exact .inl hk
  · exact .inr (by omega)

set_option maxRecDepth 100000 in
set_option maxHeartbeats 40000000 in
theorem alter_more (kind : Int) (s r : List UInt8) (rs : List (List UInt8)) (ih : AltC kind (r :: rs)) : AltC kind (s :: r :: rs) := by
  intro w ok oks t x v xv nv h hx hn hnv
  have hnl := hnv.1
  obtain ⟨nb, no, nc, rfl, n1, n2, n3, n4⟩ := strs_head hnv
  simp only [List.length_cons] at n1 hnl ⊢
  obtain ⟨m, rfl⟩ : ∃ m, nc = m + 2 := ⟨nc - 2, by omega⟩
  obtain ⟨L, hL⟩ : ∃ L, rs.length + 1 + 1 = L := ⟨_, rfl⟩
  have NT : Hid (StrsAre w oks (r :: rs) (.slice (some ⟨nb, no + 1, none⟩) (L - 1) (m + 1))) := hidI (by
    have := strs_tail hnv
    rw [List.length_cons, show rs.length + 1 = L - 1 by omega, show m + 2 - 1 = m + 1 by omega] at this
    exact this)
  rw [hL] at n1 hnl ⊢
  obtain ⟨cd, hcd⟩ : ∃ cd : Int, (if (downV (altV kind x) (s :: r :: rs) t).isSome then 0 else 3) = cd := ⟨_, rfl⟩
  rw [hcd]
  have HCD := hidI hcd
  clear hcd
  have H := hidI h.low
  have HX := hidI hx.low
  have HN := hidI hn
  have IH := hidI ih
  have hnl' : (L : Int) ≤ 9223372036854775807 := by unfold maxLen at hnl; omega
  have e1 : (1 : Int) < (L : Int) := by omega
  have e2 : (L : Int) ≤ (m : Int) + 2 := by omega
  have e3 : (1 : Int) ≤ (L : Int) := by omega
  have e4 : (0 : Int) < (L : Int) := by omega
  have HLL := hidI hL
  clear hL
  obtain ⟨l1, l2, l3⟩ := h.lens
  obtain ⟨a1, a2, c1, c2, rfl⟩ := h.form
  obtain ⟨a7, a8, c7, c8, rfl⟩ := hx.form
  have hsz := nice_len hn
  have g0 : ∀ o1 o2 o3, (((w.alloc o1).alloc o2).alloc o3).cell? ⟨nb, no, none⟩ = some (.string ⟨s.toArray⟩) := fun o1 o2 o3 => cell_bel (bel_trans (bel_trans (bel_alloc _ _) (bel_alloc _ _)) (bel_alloc _ o3)) n4
  have con1 : Hid (∀ W, W.heap = (((w.alloc (.cells #[.int .i64 t.kind, .int .i64 t.n, .string ⟨t.s.toArray⟩, .slice a1 t.keys.length c1, .slice a2 t.l.length c2] 25)).alloc (.cells #[.int .i64 x.kind, .int .i64 x.n, .string ⟨x.s.toArray⟩, .slice a7 x.keys.length c7, .slice a8 x.l.length c8] 25)).alloc (.cells #[.int .i64 0, .int .i64 0, .string ⟨#[]⟩, .slice none 0 0, .slice none 0 0] 25)).heap → W.os = w.os → W.tape = w.tape → W.output = w.output → Calls Tryd.prog 28 #[.agg #[.int .i64 t.kind, .int .i64 t.n, .string ⟨t.s.toArray⟩, .slice a1 t.keys.length c1, .slice a2 t.l.length c2], .string ⟨s.toArray⟩] W fun e w' => e = .returned (.int .i64 (optI (atV t s))) ∧ BoxIs w' w.heap.size (.int .i64 t.kind) (.int .i64 t.n) (.string ⟨t.s.toArray⟩) (.slice a1 t.keys.length c1) (.slice a2 t.l.length c2) ∧ BoxIs w' (w.heap.size + 1) (.int .i64 x.kind) (.int .i64 x.n) (.string ⟨x.s.toArray⟩) (.slice a7 x.keys.length c7) (.slice a8 x.l.length c8) ∧ BoxIs w' (w.heap.size + 2) (.int .i64 0) (.int .i64 0) (.string ⟨#[]⟩) (.slice none 0 0) (.slice none 0 0) ∧ Below w.heap.size w w') := by
    intro W e1 e2 e3 e4
    have hbW := bel_of3 e1 e2 e3 e4
    refine (rkid_is W (fun k => ok k ∧ k < w.heap.size) t _ s (H.out.bel hbW) (fun h5 => by have := nice_paired HN.out h5; simp only [pairedV, Bool.and_eq_true, decide_eq_true_eq] at this; omega)).mono ?_
    rintro e w1 ⟨rfl, hb1⟩
    exact ⟨rfl, box_bel hb1 (by unfold BoxIs; rw [e1]; exact h3a w _ _ _), box_bel hb1 (by unfold BoxIs; rw [e1]; exact h3b w _ _ _), box_bel hb1 (by unfold BoxIs; rw [e1]; exact h3c w _ _ _), bel_trans hbW hb1⟩
  clear h hx hn ih n4 hnv
  go_enter Tryd.func31, Tryd.ntmps31
  go_upto_region 1 with fail
  go_cut [10] (fun p wc => p = .int .i64 (optI (atV t s)) ∧ BoxIs wc w.heap.size (.int .i64 t.kind) (.int .i64 t.n) (.string ⟨t.s.toArray⟩) (.slice a1 t.keys.length c1) (.slice a2 t.l.length c2) ∧ BoxIs wc (w.heap.size + 1) (.int .i64 x.kind) (.int .i64 x.n) (.string ⟨x.s.toArray⟩) (.slice a7 x.keys.length c7) (.slice a8 x.l.length c8) ∧ BoxIs wc (w.heap.size + 2) (.int .i64 0) (.int .i64 0) (.string ⟨#[]⟩) (.slice none 0 0) (.slice none 0 0) ∧ Below w.heap.size w wc)
  case first =>
    go_region_with ((go_at_call 28; refine (con1.out _ (by rfl) (by rfl) (by rfl) (by rfl)).mono ?_; rintro e w1 ⟨rfl, hfin⟩; have FIN := hidI hfin; clear hfin))
    all_goals
      go_wp2_with fail
      go_meet
      case rel => exact ⟨rfl, FIN.out⟩
  case rest =>
    obtain ⟨wa, hwa⟩ : ∃ wa, wa = wc := ⟨_, rfl⟩
    subst hwa
    obtain ⟨rfl, k1, k2, k3, k4⟩ := hcut
    have K : Hid (BoxIs wa w.heap.size (.int .i64 t.kind) (.int .i64 t.n) (.string ⟨t.s.toArray⟩) (.slice a1 t.keys.length c1) (.slice a2 t.l.length c2) ∧ BoxIs wa (w.heap.size + 1) (.int .i64 x.kind) (.int .i64 x.n) (.string ⟨x.s.toArray⟩) (.slice a7 x.keys.length c7) (.slice a8 x.l.length c8) ∧ BoxIs wa (w.heap.size + 2) (.int .i64 0) (.int .i64 0) (.string ⟨#[]⟩) (.slice none 0 0) (.slice none 0 0) ∧ Below w.heap.size w wa) := hidI ⟨k1, k2, k3, k4⟩
    clear con1 g0
    have hk3 := k3.lt
    obtain ⟨p0, p1, p2, p3, p4, -⟩ := k1.c
    obtain ⟨q0, q1, q2, q3, q4, -⟩ := k2.c
    obtain ⟨x0, x1, x2, x3, x4, y0, y1, y2, y3, y4⟩ := k3.c
    cases hm : atV t s with
    | none =>
      have Z : Hid (_ ∧ _) := hidI (set_out (C := wa.heap.size) (g := w.heap.size + 2) ((H.out.bel k4).weak (lowN_low (C := wa.heap.size))) k4 (by omega) k3.lt)
      have ZB : Hid _ := hidI (k3.set (.int .i64 t.kind) (.int .i64 t.n) (.string ⟨t.s.toArray⟩) (.slice a1 t.keys.length c1) (.slice a2 t.l.length c2))
      have HA : Hid (downV (altV kind x) (s :: r :: rs) t = none) := hidI (by rw [downV, meant_at, hm]; rfl)
      have eo : optI none = -1 := rfl
      rw [eo]
      clear k1 k2 k3 k4 hm eo
      go_wp2_with fail
      obtain ⟨z0, z1, z2, z3, z4, -⟩ := ZB.out.c
      refine bodyPost_ret (v := .tuple #[.agg #[.int .i64 t.kind, .int .i64 t.n, .string ⟨t.s.toArray⟩, .slice a1 t.keys.length c1, .slice a2 t.l.length c2], .int .i64 3]) ?_ rfl ?_
      · simp only [set5] at z0 z1 z2 z3 z4
        simp [results, Tryd.results31, go_sem, z0, z1, z2, z3, z4]
      · refine ⟨_, by rw [← HCD.out, HA.out]; rfl, Z.out.1, ?_⟩
        rw [HA.out]
        exact Z.out.2
    | some i =>
      have hi : i < t.l.length := at_lt hm
      obtain ⟨u, hu⟩ : ∃ u, t.l[i] = u := ⟨_, rfl⟩
      obtain ⟨xb, xo, b5, f5, b6, f6, rfl, j3, j4, g0, g1, g2, g3, g4, g5⟩ := (H.out.bel k4).item hi
      rw [hu] at g0 g1 g2 g3 g4 g5
      have NU : Hid (Nice u) := hidI (nice_mem HN.out (by rw [← hu]; exact List.getElem_mem hi))
      have DV : Hid (downV (altV kind x) (s :: r :: rs) t = (downV (altV kind x) (r :: rs) u).bind fun y' => some { t with l := t.l.take i ++ y' :: t.l.drop (i + 1) }) := hidI (by
        rw [downV, meant_at, hm, Option.bind_some, List.getElem?_eq_getElem hi, hu, Option.bind_some]
        congr 1
        funext y'
        rw [replaced_at, hm]; rfl)
      obtain ⟨cd2, hcd2⟩ : ∃ cd2 : Int, (if (downV (altV kind x) (r :: rs) u).isSome then 0 else 3) = cd2 := ⟨_, rfl⟩
      have CD2 := hidI hcd2
      clear hcd2
      have G5 := hidI g5
      have eo : optI (some i) = (i : Int) := rfl
      rw [eo]
      have v1 : ¬ (i : Int) < 0 := by omega
      have v2 : (0 : Int) ≤ (i : Int) := by omega
      have v3 : (i : Int) < (t.l.length : Int) := by omega
      have ac0 : ∀ o, (wa.alloc o).cell? ⟨xb, xo + i * 5, none⟩ = some (.int .i64 u.kind) := fun o => cell_bel (bel_alloc _ o) g0
      have con5 : Hid (∀ W, W.heap = wa.heap → W.os = wa.os → W.tape = wa.tape → W.output = wa.output → Calls Tryd.prog 31 #[.int .i64 kind, .agg #[.int .i64 u.kind, .int .i64 u.n, .string ⟨u.s.toArray⟩, .slice b5 u.keys.length f5, .slice b6 u.l.length f6], .slice (some ⟨nb, no + 1, none⟩) (L - 1) (m + 1), .agg #[.int .i64 x.kind, .int .i64 x.n, .string ⟨x.s.toArray⟩, .slice a7 x.keys.length c7, .slice a8 x.l.length c8]] W fun e w' => ∃ (y2 : V) (e5 e6 : Option Addr) (d5 d6 : Nat), e = .returned (.tuple #[.agg #[.int .i64 y2.kind, .int .i64 y2.n, .string ⟨y2.s.toArray⟩, .slice e5 y2.keys.length d5, .slice e6 y2.l.length d6], .int .i64 cd2]) ∧ ∀ wc, wc = w'.alloc (.cells #[.int .i64 y2.kind, .int .i64 y2.n, .string ⟨y2.s.toArray⟩, .slice e5 y2.keys.length d5, .slice e6 y2.l.length d6] 25) → MidA w ok t u (downV (altV kind x) (r :: rs) u) cd2 a1 (some ⟨xb, xo, none⟩) c1 c2 wa.heap.size (.pointer (some ⟨w'.heap.size, 0, none⟩)) (.int .i64 cd2) wc) := by
        intro W e1 e2 e3 e4
        have hbW := bel_of0 e1 e2 e3 e4
        have hsz : W.heap.size = wa.heap.size := by rw [e1]
        have hbb := bel_trans K.out.2.2.2 hbW
        refine (IH.out W (fun k => ok k ∧ k < w.heap.size) oks u x _ _ _ (G5.out.bel hbW) (HX.out.bel hbb) NU.out (NT.out.bel hbb)).mono ?_
        rintro e w1 ⟨r9, rfl, hb1, hy⟩
        obtain ⟨y2, hy2⟩ : ∃ y2, (downV (altV kind x) (r :: rs) u).getD u = y2 := ⟨_, rfl⟩
        rw [hy2] at hy
        obtain ⟨e5, e6, d5, d6, rfl⟩ := hy.form
        rw [hsz] at hy
        refine ⟨y2, e5, e6, d5, d6, by rw [CD2.out], ?_⟩
        rintro wc rfl
        have hb3 := bel_trans (bel_trans hbW hb1) (bel_alloc w1 (.cells #[.int .i64 y2.kind, .int .i64 y2.n, .string ⟨y2.s.toArray⟩, .slice e5 y2.keys.length d5, .slice e6 y2.l.length d6] 25))
        exact ⟨y2, e5, e6, d5, d6, w1.heap.size, rfl, rfl, hy2.symm, heap_alloc_new w1 _, box_bel hb3 K.out.1, box_bel hb3 K.out.2.2.1, bel_trans K.out.2.2.2 hb3, hy.bel (bel_alloc _ _)⟩
      have con5b : Hid (∀ W, W.heap = (wa.alloc (.cells #[.int .i64 0, .int .i64 0, .string ⟨#[]⟩, .slice none 0 0, .slice none 0 0] 25)).heap → W.os = wa.os → W.tape = wa.tape → W.output = wa.output → Calls Tryd.prog 31 #[.int .i64 kind, .agg #[.int .i64 u.kind, .int .i64 u.n, .string ⟨u.s.toArray⟩, .slice b5 u.keys.length f5, .slice b6 u.l.length f6], .slice (some ⟨nb, no + 1, none⟩) (L - 1) (m + 1), .agg #[.int .i64 x.kind, .int .i64 x.n, .string ⟨x.s.toArray⟩, .slice a7 x.keys.length c7, .slice a8 x.l.length c8]] W fun e w' => ∃ (y2 : V) (e5 e6 : Option Addr) (d5 d6 : Nat), e = .returned (.tuple #[.agg #[.int .i64 y2.kind, .int .i64 y2.n, .string ⟨y2.s.toArray⟩, .slice e5 y2.keys.length d5, .slice e6 y2.l.length d6], .int .i64 cd2]) ∧ BoxIs w' wa.heap.size (.int .i64 0) (.int .i64 0) (.string ⟨#[]⟩) (.slice none 0 0) (.slice none 0 0) ∧ ∀ wc, wc = set5 w' wa.heap.size (.int .i64 y2.kind) (.int .i64 y2.n) (.string ⟨y2.s.toArray⟩) (.slice e5 y2.keys.length d5) (.slice e6 y2.l.length d6) → MidA w ok t u (downV (altV kind x) (r :: rs) u) cd2 a1 (some ⟨xb, xo, none⟩) c1 c2 wa.heap.size (.pointer (some ⟨wa.heap.size, 0, none⟩)) (.int .i64 cd2) wc) := by
        intro W e1 e2 e3 e4
        have hbW : Below wa.heap.size wa W := by
          have := bel_alloc wa (.cells #[.int .i64 0, .int .i64 0, .string ⟨#[]⟩, .slice none 0 0, .slice none 0 0] 25)
          exact ⟨e2, e3, e4, by rw [e1]; exact this.size, fun k hk => by rw [e1]; exact this.block k hk⟩
        have hsz : W.heap.size = wa.heap.size + 1 := by rw [e1]; simp
        have hbb := bel_trans K.out.2.2.2 hbW
        refine (IH.out W (fun k => ok k ∧ k < w.heap.size) oks u x _ _ _ (G5.out.bel hbW) (HX.out.bel hbb) NU.out (NT.out.bel hbb)).mono ?_
        rintro e w1 ⟨r9, rfl, hb1, hy⟩
        obtain ⟨y2, hy2⟩ : ∃ y2, (downV (altV kind x) (r :: rs) u).getD u = y2 := ⟨_, rfl⟩
        rw [hy2] at hy
        obtain ⟨e5, e6, d5, d6, rfl⟩ := hy.form
        rw [hsz] at hy
        have hb3 := bel_trans hbW hb1
        have hbx : BoxIs w1 wa.heap.size (.int .i64 0) (.int .i64 0) (.string ⟨#[]⟩) (.slice none 0 0) (.slice none 0 0) := box_bel hb1 (by unfold BoxIs; rw [e1]; exact heap_alloc_new wa _)
        refine ⟨y2, e5, e6, d5, d6, by rw [CD2.out], hbx, ?_⟩
        rintro wc rfl
        have g1 := set5_gb w1 wa.heap.size (.int .i64 y2.kind) (.int .i64 y2.n) (.string ⟨y2.s.toArray⟩) (.slice e5 y2.keys.length d5) (.slice e6 y2.l.length d6)
        exact ⟨y2, e5, e6, d5, d6, wa.heap.size, rfl, rfl, hy2.symm, hbx.set _ _ _ _ _, (box_bel hb3 K.out.1).grown g1 (by simp; omega), (box_bel hb3 K.out.2.2.1).grown g1 (by simp; omega), bel_set5 (bel_trans K.out.2.2.2 hb3) (by omega) _ _ _ _ _, (In.box (B := w.heap.size) (C := wa.heap.size + 1) hy (by omega) (by omega) _ _ _ _ _).weak (lowN_less (by omega))⟩
      have ac1 : ∀ o, (wa.alloc o).cell? ⟨xb, xo + i * 5 + 1, none⟩ = some (.int .i64 u.n) := fun o => cell_bel (bel_alloc _ o) g1
      have ac2 : ∀ o, (wa.alloc o).cell? ⟨xb, xo + i * 5 + 2, none⟩ = some (.string ⟨u.s.toArray⟩) := fun o => cell_bel (bel_alloc _ o) g2
      have ac3 : ∀ o, (wa.alloc o).cell? ⟨xb, xo + i * 5 + 3, none⟩ = some (.slice b5 u.keys.length f5) := fun o => cell_bel (bel_alloc _ o) g3
      have ac4 : ∀ o, (wa.alloc o).cell? ⟨xb, xo + i * 5 + 4, none⟩ = some (.slice b6 u.l.length f6) := fun o => cell_bel (bel_alloc _ o) g4
      have ap4 : ∀ o, (wa.alloc o).cell? ⟨w.heap.size, 4, none⟩ = some (.slice (some ⟨xb, xo, none⟩) t.l.length c2) := fun o => cell_bel (bel_alloc _ o) p4
      have aq0 : ∀ o, (wa.alloc o).cell? ⟨w.heap.size + 1, 0, none⟩ = some (.int .i64 x.kind) := fun o => cell_bel (bel_alloc _ o) q0
      have aq1 : ∀ o, (wa.alloc o).cell? ⟨w.heap.size + 1, 1, none⟩ = some (.int .i64 x.n) := fun o => cell_bel (bel_alloc _ o) q1
      have aq2 : ∀ o, (wa.alloc o).cell? ⟨w.heap.size + 1, 2, none⟩ = some (.string ⟨x.s.toArray⟩) := fun o => cell_bel (bel_alloc _ o) q2
      have aq3 : ∀ o, (wa.alloc o).cell? ⟨w.heap.size + 1, 3, none⟩ = some (.slice a7 x.keys.length c7) := fun o => cell_bel (bel_alloc _ o) q3
      have aq4 : ∀ o, (wa.alloc o).cell? ⟨w.heap.size + 1, 4, none⟩ = some (.slice a8 x.l.length c8) := fun o => cell_bel (bel_alloc _ o) q4
      clear k1 k2 k3 k4 hm eo hu g5
      go_upto_region 5 with fail
      go_cut [11, 12] (fun p q wc => MidA w ok t u (downV (altV kind x) (r :: rs) u) cd2 a1 (some ⟨xb, xo, none⟩) c1 c2 wa.heap.size p q wc)
      case first =>
        go_region_with (first
          | (go_at_call 31; refine (con5.out _ (by rfl) (by rfl) (by rfl) (by rfl)).mono ?_; rintro e w1 ⟨y2, e5, e6, d5, d6, rfl, hfin⟩; have FIN := hidI hfin; clear hfin)
          | (go_at_call 31; refine (con5b.out _ (by rfl) (by rfl) (by rfl) (by rfl)).mono ?_; rintro e w1 ⟨y2, e5, e6, d5, d6, rfl, hbx, hfin⟩; obtain ⟨h0, h1, h2, h3, h4, h5, h6, h7, h8, h9⟩ := hbx.c; have FIN := hidI hfin; clear hfin hbx))
        all_goals
          go_wp2_with fail
          go_meet
          case rel => exact FIN.out _ rfl
      case rest =>
        obtain ⟨y2, e5, e6, d5, d6, g, rfl, rfl, hy2, k1, k3, k4, k5, k6⟩ := hcut
        have hk4 := k4.lt
        clear con5 con5b ac0 ac1 ac2 ac3 ac4 ap4 aq0 aq1 aq2 aq3 aq4 p0 p1 p2 p3 p4 q0 q1 q2 q3 q4 x0 x1 x2 x3 x4 y0 y1 y3 y4 g0 g1 g2 g3 g4
        obtain ⟨p0, p1, p2, p3, p4, -⟩ := k3.c
        cases hd : downV (altV kind x) (r :: rs) u with
        | none =>
          have hc2 : cd2 = 3 := by rw [← CD2.out, hd]; rfl
          subst hc2
          obtain ⟨x0, x1, x2, x3, x4, y0, y1, y2', y3, y4⟩ := k4.c
          have Z : Hid (_ ∧ _) := hidI (set_out (C := wc.heap.size) (g := w.heap.size + 2) ((H.out.bel k5).weak (lowN_low (C := wc.heap.size))) k5 (by omega) k4.lt)
          have ZB : Hid _ := hidI (k4.set (.int .i64 t.kind) (.int .i64 t.n) (.string ⟨t.s.toArray⟩) (.slice a1 t.keys.length c1) (.slice (some ⟨xb, xo, none⟩) t.l.length c2))
          have HA : Hid (downV (altV kind x) (s :: r :: rs) t = none) := hidI (by rw [DV.out, hd]; rfl)
          clear k1 k3 k4 k5 k6 hd hy2 CD2 DV
          go_wp2_with fail
          obtain ⟨z0, z1, z2, z3, z4, -⟩ := ZB.out.c
          refine bodyPost_ret (v := .tuple #[.agg #[.int .i64 t.kind, .int .i64 t.n, .string ⟨t.s.toArray⟩, .slice a1 t.keys.length c1, .slice (some ⟨xb, xo, none⟩) t.l.length c2], .int .i64 3]) ?_ rfl ?_
          · simp only [set5] at z0 z1 z2 z3 z4
            simp [results, Tryd.results31, go_sem, z0, z1, z2, z3, z4]
          · refine ⟨_, by rw [← HCD.out, HA.out]; rfl, Z.out.1, ?_⟩
            rw [HA.out]
            exact Z.out.2
        | some y9 =>
          have hc2 : cd2 = 0 := by rw [← CD2.out, hd]; rfl
          subst hc2
          rw [hd, Option.getD_some] at hy2
          subst hy2
          have HA : Hid (downV (altV kind x) (s :: r :: rs) t = some { t with l := t.l.take i ++ y2 :: t.l.drop (i + 1) }) := hidI (by rw [DV.out, hd]; rfl)
          obtain ⟨f0, f1, f2, f3, f4, -⟩ := k1.c
          have K2 := hidI (And.intro k4 (And.intro k5 k6))
          clear k1 k3 k4 k5 k6 hd CD2 DV
          go_wp2_with fail
          refine (rswapped_is _ (lowN ok w.heap.size wa.heap.size) t y2 _ _ i ((H.out.bel K2.out.2.1).weak lowN_low) K2.out.2.2 hi (by omega)).mono ?_
          rintro e w1 ⟨r9, rfl, hb1, hy⟩
          obtain ⟨z, hz⟩ : ∃ z : V, { t with l := t.l.take i ++ y2 :: t.l.drop (i + 1) } = z := ⟨_, rfl⟩
          rw [hz] at hy HA
          obtain ⟨b7, b8, d7, d8, rfl⟩ := hy.form
          have hbx := box_bel hb1 K2.out.1
          have R : Hid (Below w.heap.size w (set5 w1 (w.heap.size + 2) (.int .i64 z.kind) (.int .i64 z.n) (.string ⟨z.s.toArray⟩) (.slice b7 z.keys.length d7) (.slice b8 z.l.length d8)) ∧ In (set5 w1 (w.heap.size + 2) (.int .i64 z.kind) (.int .i64 z.n) (.string ⟨z.s.toArray⟩) (.slice b7 z.keys.length d7) (.slice b8 z.l.length d8)) (okN ok w.heap.size) z (.agg #[.int .i64 z.kind, .int .i64 z.n, .string ⟨z.s.toArray⟩, .slice b7 z.keys.length d7, .slice b8 z.l.length d8]) ∧ BoxIs (set5 w1 (w.heap.size + 2) (.int .i64 z.kind) (.int .i64 z.n) (.string ⟨z.s.toArray⟩) (.slice b7 z.keys.length d7) (.slice b8 z.l.length d8)) (w.heap.size + 2) (.int .i64 z.kind) (.int .i64 z.n) (.string ⟨z.s.toArray⟩) (.slice b7 z.keys.length d7) (.slice b8 z.l.length d8)) := hidI (by
            have g1 := set5_gb w1 (w.heap.size + 2) (.int .i64 z.kind) (.int .i64 z.n) (.string ⟨z.s.toArray⟩) (.slice b7 z.keys.length d7) (.slice b8 z.l.length d8)
            refine ⟨bel_set5 (bel_trans K2.out.2.1 hb1) (by omega) _ _ _ _ _, (hy.grown g1 ?_).weak ?_, hbx.set _ _ _ _ _⟩
            · intro k hk e
              rcases hk with hk | hk
              · exact lowN_ne (by omega) (by omega) k hk e
              · omega
            · intro k hk
              rcases hk with hk | hk
              · exact lowN_out (by omega) k hk
              · exact .inr (by omega))
          obtain ⟨x0, x1, x2, x3, x4, y0, y1, y2', y3, y4⟩ := hbx.c
          clear hb1 hy hz hbx
          go_wp2_with fail
          obtain ⟨r1, r2, r3⟩ := R.out
          obtain ⟨z0, z1, z2, z3, z4, -⟩ := r3.c
          refine bodyPost_ret (v := .tuple #[.agg #[.int .i64 z.kind, .int .i64 z.n, .string ⟨z.s.toArray⟩, .slice b7 z.keys.length d7, .slice b8 z.l.length d8], .int .i64 0]) ?_ rfl ?_
          · simp only [set5] at z0 z1 z2 z3 z4
            simp [results, Tryd.results31, go_sem, z0, z1, z2, z3, z4]
          · refine ⟨_, by rw [← HCD.out, HA.out]; rfl, r1, ?_⟩
            rw [HA.out]
            exact r2
end Go.Proofs.YtaifciobaapehaaDoor

/- A region that draws its order, and at its end writes the very cells that it read: loads may be taken first where whatever writes waits for them. -/
set_option linter.unusedSimpArgs false
set_option linter.unusedVariables false
namespace Go.Proofs.YtaifciobaapehaaDoor
open Go

section
variable {P : Program} {ops : Array Oper} {Q : Exit → Act → World → Prop} {md : Region.Mode} {S : World → Prop} {T : List Nat}

def untilB (T : List Nat) (listed : Array Bool) : Bool := T.all fun t => listed.getD t true == false
/- Whatever order is picked, and S holds behind each operation while none of T has come up. -/
def wpAnyT (P : Program) (md : Region.Mode) (ops : Array Oper) (Q : Exit → Act → World → Prop) (S : World → Prop) (T : List Nat) : Nat → Array Bool → Act → World → Prop
  | 0, listed, a, w => Region.ready md ops listed = [] ∧ Q .normal a w
  | fuel + 1, listed, a, w =>
    (Region.ready md ops listed = [] → Q .normal a w) ∧
    ∀ i ∈ Region.ready md ops listed, wpOp P ops Q i (fun a' w' => (untilB T (listed.setIfInBounds i true) = true → S w') ∧ wpAnyT P md ops Q S T fuel (listed.setIfInBounds i true) a' w') a w
theorem wpAny_of_T : ∀ (fuel : Nat) (listed : Array Bool) (a : Act) (w : World), wpAnyT P md ops Q S T fuel listed a w → wpAny P md ops Q fuel listed a w
  | 0, _, _, _, h => h
  | fuel + 1, _, _, _, h => ⟨h.1, fun i hi => wpOp_mono (fun a' w' h' => wpAny_of_T fuel _ a' w' h'.2) (h.2 i hi)⟩
/- All of D wait for number i. -/
def behindB (md : Region.Mode) (ops : Array Oper) (listed : Array Bool) (i : Nat) (T D : List Nat) : Bool :=
  (D.all fun d => (match ops[d]? with | some o => o.after.any fun e => Region.binds md e && (e.on == i || D.contains e.on) | none => false) && listed.getD d true == false) && T.all fun t => D.contains t
theorem behind_not {listed : Array Bool} {i : Nat} {D : List Nat} (hD : ∀ d ∈ D, (∃ o, ops[d]? = some o ∧ ∃ e ∈ o.after, Region.binds md e = true ∧ (e.on = i ∨ e.on ∈ D)) ∧ listed.getD d true = false) (hi : listed.getD i true = false) {j : Nat} (hj : j ∈ Region.ready md ops listed) : j ∉ D := by
  intro hjD
  obtain ⟨⟨o, ho, e, he, hb, hon⟩, -⟩ := hD j hjD
  obtain ⟨-, oj, hoj, hall⟩ := mem_ready.1 hj
  rw [ho] at hoj
  cases hoj
  have h1 := hall e he hb
  have h0 : listed.getD e.on true = false := by
    rcases hon with h | h
    · rw [h]; exact hi
    · exact (hD _ h).2
  rcases Nat.lt_or_ge e.on listed.size with h' | h'
  · simp [h'] at h0 h1; rw [h0] at h1; cases h1
  · simp [Array.getElem?_eq_none h'] at h1
theorem until_of {listed : Array Bool} {i : Nat} {T D : List Nat} (hT : ∀ t ∈ T, t ∈ D) (hD : ∀ d ∈ D, listed.getD d true = false) (hi : i ∉ D) : untilB T (listed.setIfInBounds i true) = true := by
  unfold untilB
  rw [List.all_eq_true]
  intro t ht
  have : i ≠ t := fun e => hi (e ▸ hT t ht)
  rw [getD_set_ne true this, hD t (hT t ht)]; rfl
theorem wpAnyT_first {i : Nat} {oi : Oper} {v : Value} {D : List Nat} (hi : ops[i]? = some oi) (hsel : ∀ (j : Nat) (o : Oper) cs b, ops[j]? = some o → o.op ≠ .select cs b)
    (hQ : ∀ c a w, Q (.panic c) (a.put oi.dst v) w → Q (.panic c) a w) (hTD : ∀ t ∈ T, t ∈ D) :
    ∀ (fuel : Nat) (listed : Array Bool) (a : Act) (w : World),
      (∀ j oj, ops[j]? = some oj → j ≠ i → listed.getD j true = false → (∀ e ∈ oj.after, Region.binds md e = true → e.on ≠ i) → oi.apart ops oj = true) →
      (∀ d ∈ D, (∃ o, ops[d]? = some o ∧ ∃ e ∈ o.after, Region.binds md e = true ∧ (e.on = i ∨ e.on ∈ D)) ∧ listed.getD d true = false) →
      i ∈ Region.ready md ops listed → YieldsIf P ops S oi v a → S w →
      wpAnyT P md ops Q S T fuel (listed.setIfInBounds i true) (a.put oi.dst v) w → wpAnyT P md ops Q S T (fuel + 1) listed a w := by
  intro fuel
  induction fuel with
  | zero =>
    intro listed a w _ hD hr hy hS H
    refine ⟨fun h => (by rw [h] at hr; cases hr), fun j hj => ?_⟩
    by_cases hji : j = i
    · subst hji; exact hy.wpOp hi hS ⟨fun _ => hS, H⟩
    · have := ready_mono hj hji
      rw [H.1] at this
      cases this
  | succ fuel ih =>
    intro listed a w hfree hD hr hy hS H
    have hi0 : listed.getD i true = false := by
      obtain ⟨h0, -⟩ := mem_ready.1 hr
      exact h0
    refine ⟨fun h => (by rw [h] at hr; cases hr), fun j hj => ?_⟩
    by_cases hji : j = i
    · subst hji; exact hy.wpOp hi hS ⟨fun _ => hS, H⟩
    · have h1 := H.2 j (ready_mono hj hji)
      obtain ⟨hjun, oj, hoj, hall⟩ := mem_ready.1 hj
      have hnot : ∀ e ∈ oj.after, Region.binds md e = true → e.on ≠ i := fun e he hb heq => by
        have h1 := hall e he hb
        have h0 := (mem_ready.1 hr).1
        rw [heq] at h1
        rcases Nat.lt_or_ge i listed.size with h' | h'
        · simp [h'] at h0 h1; rw [h0] at h1; cases h1
        · simp [Array.getElem?_eq_none h'] at h1
      have hjD : j ∉ D := behind_not hD hi0 hj
      have hiD : i ∉ D := behind_not hD hi0 hr
      have h2 := wpOp_putIf hoj (hfree j oj hoj hji hjun hnot) (fun cs b => hsel i oi cs b hi) (fun cs b => hsel j oj cs b hoj) hQ hy h1
      have hfree' : ∀ k ok, ops[k]? = some ok → k ≠ i → (listed.setIfInBounds j true).getD k true = false →
          (∀ e ∈ ok.after, Region.binds md e = true → e.on ≠ i) → oi.apart ops ok = true := fun k ok hk hki hun hno => by
        refine hfree k ok hk hki ?_ hno
        by_cases hjk : j = k
        · subst hjk; exact hjun
        · rw [getD_set_ne true hjk] at hun; exact hun
      have hD' : ∀ d ∈ D, (∃ o, ops[d]? = some o ∧ ∃ e ∈ o.after, Region.binds md e = true ∧ (e.on = i ∨ e.on ∈ D)) ∧ (listed.setIfInBounds j true).getD d true = false := fun d hd => by
        refine ⟨(hD d hd).1, ?_⟩
        have : j ≠ d := fun e => hjD (e ▸ hd)
        rw [getD_set_ne true this]; exact (hD d hd).2
      have hu : untilB T (((listed.setIfInBounds i true)).setIfInBounds j true) = true := until_of hTD (fun d hd => by
        have : i ≠ d := fun e => hiD (e ▸ hd)
        rw [getD_set_ne true this]; exact (hD d hd).2) hjD
      refine wpOp_mono (fun a' w' h3 => ⟨fun _ => h3.2.1 hu, ih (listed.setIfInBounds j true) a' w' hfree' hD' (ready_mono hr (Ne.symm hji)) h3.1 (h3.2.1 hu) ?_⟩) h2
      rw [Array.setIfInBounds_comm _ _ hji]
      exact h3.2.2
/- Take number i first. -/
theorem wpAnyT_take {i : Nat} {oi : Oper} {v : Value} {fuel : Nat} {listed : Array Bool} {a : Act} {w : World} (D : List Nat) (hi : ops[i]? = some oi)
    (hs : Region.noSelect ops = true) (hf : Region.free md ops listed i = true) (hr : (Region.ready md ops listed).contains i = true) (hB : behindB md ops listed i T D = true)
    (hQ : ∀ c a w, Q (.panic c) (a.put oi.dst v) w → Q (.panic c) a w) (hy : YieldsIf P ops S oi v a) (hS : S w)
    (h : wpAnyT P md ops Q S T fuel (listed.setIfInBounds i true) (a.put oi.dst v) w) : wpAnyT P md ops Q S T (fuel + 1) listed a w := by
  unfold behindB at hB
  rw [Bool.and_eq_true, List.all_eq_true, List.all_eq_true] at hB
  refine wpAnyT_first (D := D) hi (Region.noSelect_spec hs) hQ (fun t ht => by simpa using hB.2 t ht) fuel listed a w (Region.free_spec hi hf) (fun d hd => ?_) (by simpa using hr) hy hS h
  have h1 := hB.1 d hd
  rw [Bool.and_eq_true] at h1
  refine ⟨?_, by simpa using h1.2⟩
  cases ho : ops[d]? with
  | none => rw [ho] at h1; simp at h1
  | some o =>
    rw [ho] at h1
    have h2 := h1.1
    simp only [Array.any_eq_true] at h2
    obtain ⟨k, hk, h3⟩ := h2
    refine ⟨o, rfl, o.after[k], Array.getElem_mem hk, ?_⟩
    simpa using h3
/- Each of rs comes up next. -/
def AllReadyT (P : Program) (md : Region.Mode) (ops : Array Oper) (Q : Exit → Act → World → Prop) (S : World → Prop) (T : List Nat) (fuel : Nat) (listed : Array Bool) (a : Act) (w : World) (rs : List Nat) : Prop :=
  ∀ i ∈ rs, wpOp P ops Q i (fun a' w' => (untilB T (listed.setIfInBounds i true) = true → S w') ∧ wpAnyT P md ops Q S T fuel (listed.setIfInBounds i true) a' w') a w
theorem AllReadyT.nil {fuel : Nat} {listed : Array Bool} {a : Act} {w : World} : AllReadyT P md ops Q S T fuel listed a w [] := fun _ h => by cases h
/- An operation ahead of T: S is shown anew, and handed on. -/
theorem AllReadyT.cons {fuel : Nat} {listed : Array Bool} {a : Act} {w : World} {i : Nat} {o : Oper} {rs : List Nat} (ho : ops[i]? = some o)
    (h : ∀ K' : Act → World → Prop, Shut (∀ a w, S w → (S w → wpAnyT P md ops Q S T fuel (listed.setIfInBounds i true) a w) → K' a w) → if Region.wanted o (yielded ops a.tmps) = true then Oper.wp P o a w K' Q else K' (a.put o.dst undef) w)
    (hs : AllReadyT P md ops Q S T fuel listed a w rs) : AllReadyT P md ops Q S T fuel listed a w (i :: rs) := fun j hj => by
  rcases List.mem_cons.1 hj with rfl | hj
  · exact wpOp_step ho (fun K' hK => h K' (fun a w hS hW => hK a w ⟨fun _ => hS, hW hS⟩))
  · exact hs j hj
theorem wpAnyT_ready {rs : List Nat} {fuel : Nat} {listed : Array Bool} {a : Act} {w : World} (hr : Region.ready md ops listed = rs) (hne : rs ≠ [])
    (h : AllReadyT P md ops Q S T fuel listed a w rs) : wpAnyT P md ops Q S T (fuel + 1) listed a w := ⟨fun h0 => absurd (hr ▸ h0) hne, hr ▸ h⟩
/- An operation of T, or behind it, that comes up alone. -/
theorem wpAnyT_last {i : Nat} {o : Oper} {fuel : Nat} {listed : Array Bool} {a : Act} {w : World} (hr : Region.ready md ops listed = [i]) (hu : untilB T (listed.setIfInBounds i true) = false) (ho : ops[i]? = some o)
    (h : ∀ K' : Act → World → Prop, Shut (∀ a w, wpAnyT P md ops Q S T fuel (listed.setIfInBounds i true) a w → K' a w) → if Region.wanted o (yielded ops a.tmps) = true then Oper.wp P o a w K' Q else K' (a.put o.dst undef) w) :
    wpAnyT P md ops Q S T (fuel + 1) listed a w := by
  refine ⟨fun h0 => (by rw [hr] at h0; cases h0), fun j hj => ?_⟩
  rw [hr, List.mem_singleton] at hj
  subst hj
  exact wpOp_step ho (fun K' hK => h K' (fun a w hW => hK a w ⟨fun h => absurd h (by rw [hu]; simp), hW⟩))
theorem wpAnyT_done {listed : Array Bool} {a : Act} {w : World} (hr : Region.ready md ops listed = []) (h : Q .normal a w) :
    ∀ fuel, wpAnyT P md ops Q S T fuel listed a w
  | 0 => ⟨hr, h⟩
  | _ + 1 => ⟨fun _ => h, by rw [hr]; simp⟩
theorem wp_region_T {id : Nat} {a : Act} {w : World} (S : World → Prop) (T : List Nat) (hm : P.follows .mixedOrders = true) (hS : S w.drew)
    (h : S w.drew → wpAnyT P .any ops Q S T ops.size (Array.replicate ops.size false) a w.drew) : (Code.region id ops true).wp P Q a w :=
  wp_region_any hm (wpAny_of_T _ _ _ _ (h hS))
end
end Go.Proofs.YtaifciobaapehaaDoor

/- What WithMember and WithoutMember of the reference make of pairs, plainly. -/
set_option linter.unusedSimpArgs false
set_option linter.unusedVariables false
namespace Go.Proofs.YtaifciobaapehaaDoor
open Go.RowKit
/- What WithMember and WithoutMember of the reference make of pairs. -/
def wmF (key : List UInt8) (x : V) : List (List UInt8 × V) → Bool → List (List UInt8 × V)
  | [], put => if put then [] else [(key, x)]
  | p :: r, put => (if !put && !Op.bytesLess p.1 key then [(key, x)] else []) ++ (if p.1 ≠ key then [p] else []) ++ wmF key x r (put || !Op.bytesLess p.1 key)
theorem wm_put (key : List UInt8) (x : V) : ∀ (ps : List (List UInt8 × V)), wmF key x ps true = ps.filter fun p => decide (p.1 ≠ key)
  | [] => rfl
  | p :: r => by
    unfold wmF
    simp only [Bool.not_true, Bool.false_and, Bool.false_eq_true, if_false, List.nil_append, Bool.true_or, wm_put key x r]
    by_cases h : p.1 = key <;> simp [h]
theorem look_filter {k key : List UInt8} (h : k ≠ key) : ∀ (ps : List (List UInt8 × V)), look k (ps.filter fun p => decide (p.1 ≠ key)) = look k ps
  | [] => rfl
  | p :: r => by
    by_cases hp : p.1 = key
    · have : p.1 ≠ k := fun e => h (e.symm.trans hp)
      simp only [List.filter_cons, hp, ne_eq, not_true_eq_false, decide_false, Bool.false_eq_true, if_false, look_filter h r]
      rw [look, if_neg this]
    · simp only [List.filter_cons, hp, ne_eq, not_false_eq_true, decide_true, if_true, look, look_filter h r]
theorem wm_look (key : List UInt8) (x : V) (k : List UInt8) : ∀ (ps : List (List UInt8 × V)), (ps.map Prod.fst).Pairwise (fun a b => Op.bytesLess a b = true) → look k (wmF key x ps false) = if k = key then some x else look k ps
  | [], _ => by
    unfold wmF
    by_cases h : key = k
    · simp [look, h]
    · have : ¬ k = key := fun e => h e.symm
      simp [look, h, this]
  | p :: r, hr => by
    rw [List.map_cons, List.pairwise_cons] at hr
    unfold wmF
    cases hb : Op.bytesLess p.1 key with
    | true =>
      have hne : p.1 ≠ key := less_ne hb
      simp only [Bool.not_false, Bool.not_true, Bool.and_false, Bool.false_eq_true, if_false, List.nil_append, Bool.or_false, if_pos hne, List.singleton_append, look, wm_look key x k r hr.2]
      by_cases h : p.1 = k
      · have : k ≠ key := fun e => hne (h.trans e)
        simp [h, this]
      · simp [h]
    | false =>
      simp only [Bool.not_false, Bool.and_true, if_true, Bool.or_true, wm_put, List.append_assoc]
      rw [List.singleton_append, look]
      by_cases h : key = k
      · simp [h]
      · have h' : k ≠ key := fun e => h e.symm
        simp only [if_neg h, if_neg h']
        rw [show (if p.1 ≠ key then [p] else []) ++ r.filter (fun p => decide (p.1 ≠ key)) = (p :: r).filter (fun p => decide (p.1 ≠ key)) by by_cases hp : p.1 = key <;> simp [hp]]
        exact look_filter h' (p :: r)
theorem wm_rises (key : List UInt8) (x : V) : ∀ (ps : List (List UInt8 × V)), (ps.map Prod.fst).Pairwise (fun a b => Op.bytesLess a b = true) → ((wmF key x ps false).map Prod.fst).Pairwise (fun a b => Op.bytesLess a b = true) ∧
    ∀ a, (∀ k ∈ ps.map Prod.fst, Op.bytesLess a k = true) → Op.bytesLess a key = true → ∀ k ∈ (wmF key x ps false).map Prod.fst, Op.bytesLess a k = true
  | [], _ => by
    unfold wmF
    simp
  | p :: r, hr => by
    rw [List.map_cons, List.pairwise_cons] at hr
    unfold wmF
    cases hb : Op.bytesLess p.1 key with
    | true =>
      have hne : p.1 ≠ key := less_ne hb
      obtain ⟨h1, h2⟩ := wm_rises key x r hr.2
      simp only [Bool.not_false, Bool.not_true, Bool.and_false, Bool.false_eq_true, if_false, List.nil_append, Bool.or_false, if_pos hne, List.singleton_append, List.map_cons]
      refine ⟨List.pairwise_cons.2 ⟨h2 p.1 hr.1 hb, h1⟩, ?_⟩
      intro a ha hk k hm
      rcases List.mem_cons.1 hm with rfl | hm
      · exact ha _ (by simp)
      · exact h2 a (fun k hk => ha k (by simp [hk])) hk k hm
    | false =>
      simp only [Bool.not_false, Bool.and_true, if_true, Bool.or_true, wm_put, List.append_assoc]
      rw [show (if p.1 ≠ key then [p] else []) ++ r.filter (fun p => decide (p.1 ≠ key)) = (p :: r).filter (fun p => decide (p.1 ≠ key)) by by_cases hp : p.1 = key <;> simp [hp]]
      have hall : ∀ k ∈ ((p :: r).filter (fun p => decide (p.1 ≠ key))).map Prod.fst, Op.bytesLess key k = true := by
        intro k hk
        rw [List.mem_map] at hk
        obtain ⟨q, hq, rfl⟩ := hk
        rw [List.mem_filter] at hq
        have hqn : q.1 ≠ key := by simpa using hq.2
        rcases List.mem_cons.1 hq.1 with rfl | hqr
        · exact less_total _ _ hb hqn
        · by_cases hp : p.1 = key
          · rw [← hp]; exact hr.1 _ (List.mem_map.2 ⟨q, hqr, rfl⟩)
          · exact less_trans _ _ _ (less_total _ _ hb hp) (hr.1 _ (List.mem_map.2 ⟨q, hqr, rfl⟩))
      have hpw : (((p :: r).filter (fun p => decide (p.1 ≠ key))).map Prod.fst).Pairwise (fun a b => Op.bytesLess a b = true) := by
        refine List.Pairwise.sublist ?_ (List.pairwise_cons.2 ⟨hr.1, hr.2⟩)
        exact (List.filter_sublist (l := p :: r)).map Prod.fst
      refine ⟨?_, ?_⟩
      · rw [List.singleton_append, List.map_cons]
        exact List.pairwise_cons.2 ⟨hall, hpw⟩
      · intro a ha hk k hm
        rw [List.singleton_append, List.map_cons] at hm
        rcases List.mem_cons.1 hm with rfl | hm
        · exact hk
        · exact less_trans _ _ _ hk (hall k hm)
theorem zip_maps (ps : List (List UInt8 × V)) : (ps.map Prod.fst).zip (ps.map Prod.snd) = ps := by
  induction ps with
  | nil => rfl
  | cons p ps ih => simp [ih]
theorem zip_fst {a : List (List UInt8)} {b : List V} (h : a.length = b.length) : (a.zip b).map Prod.fst = a := List.map_fst_zip (Nat.le_of_eq h)
theorem wm_with {t : V} (h : Ob t) (key : List UInt8) (x : V) : (⟨5, 0, [], (wmF key x (t.keys.zip t.l) false).map Prod.fst, (wmF key x (t.keys.zip t.l) false).map Prod.snd⟩ : V) = withV t key x := by
  have hz : ((t.keys.zip t.l).map Prod.fst).Pairwise (fun a b => Op.bytesLess a b = true) := by rw [zip_fst h.2.2.2.1]; exact h.2.2.2.2
  have ho : Ob ⟨5, 0, [], (wmF key x (t.keys.zip t.l) false).map Prod.fst, (wmF key x (t.keys.zip t.l) false).map Prod.snd⟩ := ⟨rfl, rfl, rfl, by simp, (wm_rises key x _ hz).1⟩
  refine ob_ext ho (ob_with h key x) fun k => ?_
  rw [memV_look ho.paired]
  show look k (((wmF key x (t.keys.zip t.l) false).map Prod.fst).zip ((wmF key x (t.keys.zip t.l) false).map Prod.snd)) = _
  rw [zip_maps, wm_look key x k _ hz]
  by_cases e : k = key
  · rw [if_pos e, e, mem_with h.paired]
  · rw [if_neg e, mem_other h.paired _ _ _ e, memV_look h.paired]
def woF (key : List UInt8) (ps : List (List UInt8 × V)) : List (List UInt8 × V) := ps.filter fun p => decide (p.1 ≠ key)
theorem wo_without {t : V} (h : Ob t) (key : List UInt8) : (⟨5, 0, [], (woF key (t.keys.zip t.l)).map Prod.fst, (woF key (t.keys.zip t.l)).map Prod.snd⟩ : V) = withoutV t key := by
  have hz : ((t.keys.zip t.l).map Prod.fst).Pairwise (fun a b => Op.bytesLess a b = true) := by rw [zip_fst h.2.2.2.1]; exact h.2.2.2.2
  have ho : Ob ⟨5, 0, [], (woF key (t.keys.zip t.l)).map Prod.fst, (woF key (t.keys.zip t.l)).map Prod.snd⟩ := ⟨rfl, rfl, rfl, by simp, List.Pairwise.sublist ((List.filter_sublist (l := t.keys.zip t.l)).map Prod.fst) hz⟩
  refine ob_ext ho (ob_without h key) fun k => ?_
  rw [memV_look ho.paired]
  show look k (((woF key (t.keys.zip t.l)).map Prod.fst).zip ((woF key (t.keys.zip t.l)).map Prod.snd)) = _
  rw [zip_maps]
  by_cases e : k = key
  · rw [e, mem_without h.paired (List.Pairwise.imp (fun h => less_ne h) h.2.2.2.2)]
    refine look_none fun p hp => ?_
    have := (List.mem_filter.1 hp).2
    simpa using this
  · rw [mem_without_other h e, memV_look h.paired]
    exact look_filter e _
end Go.Proofs.YtaifciobaapehaaDoor

/- A region of two pushes into an object that is being made: what it keeps. -/
set_option linter.unusedSimpArgs false
set_option linter.unusedVariables false
namespace Go.Proofs.YtaifciobaapehaaDoor
open Go.RowKit

theorem h4dd (w : World) (o1 o2 o3 o4 : Obj) : ((((w.alloc o1).alloc o2).alloc o3).alloc o4).heap[w.heap.size + 3]? = some o4 := by
  have h := heap_alloc_new (((w.alloc o1).alloc o2).alloc o3) o4
  have e : (((w.alloc o1).alloc o2).alloc o3).heap.size = w.heap.size + 3 := by simp
  rw [e] at h; exact h
theorem nb_grown {W W' : World} {nb : Nat} {o : Obj} {r : Option Nat} (h : W.heap[nb]? = some o) (hg : W.grownBy W' r) (hr : some nb ≠ r) : W'.heap[nb]? = some o :=
  (hg.block nb (Array.getElem?_eq_some_iff.1 h).1 hr).trans h
theorem OE.drew {w wr : World} {ok : Nat → Prop} {B d : Nat} {ks : List (List UInt8)} {l : List V} {kv lv : Value} (h : OE w ok B d ks l kv lv wr) : OE w ok B d ks l kv lv wr.drew := h.bel (bel_drewN wr 1)
theorem OE.kown {w wr : World} {ok : Nat → Prop} {B d : Nat} {ks : List (List UInt8)} {l : List V} {kv lv : Value} (h : OE w ok B d ks l kv lv wr) : ∀ g, kv.ownBlock = some g → B ≤ g ∧ g < wr.heap.size := by
  obtain ⟨cs, h1, -⟩ := h; exact fun g e => h1.lt g e
theorem OE.lown {w wr : World} {ok : Nat → Prop} {B d : Nat} {ks : List (List UInt8)} {l : List V} {kv lv : Value} (h : OE w ok B d ks l kv lv wr) : ∀ g, lv.ownBlock = some g → B ≤ g ∧ g < wr.heap.size := by
  obtain ⟨cs, -, h2, -⟩ := h; exact fun g e => h2.lt g e
theorem OE.below {w wr : World} {ok : Nat → Prop} {B d : Nat} {ks : List (List UInt8)} {l : List V} {kv lv : Value} (h : OE w ok B d ks l kv lv wr) : Below w.heap.size w wr := by
  obtain ⟨cs, -, -, -, -, h5, -⟩ := h; exact h5
theorem OE.set {w wr : World} {ok : Nat → Prop} {B d : Nat} {ks : List (List UInt8)} {l : List V} {kv lv : Value} (h : OE w ok B d ks l kv lv wr) {g : Nat} (h1 : w.heap.size ≤ g) (h2 : g < B) (i : Nat) (x : Value) : OE w ok B d ks l kv lv (wr.setCell ⟨g, i, none⟩ x) := by
  obtain ⟨cs, e1, e2, e3, e4, e5, e6⟩ := h
  have hg : wr.grownBy (wr.setCell ⟨g, i, none⟩ x) (some g) := gb_set (gb_refl _ _) _ _
  exact ⟨cs, own_kept' e1 hg h2, own_kept' e2 hg h2, e3.imp fun _ _ h => h.grown hg (fun k hk e => by have := hk.2; simp at e; omega), e4, gb_none (gb_out (gb_below e5) hg h1), e6⟩
theorem own_formR {w : World} {B : Nat} {e : TypeId} {size : Nat} {v : Value} {n : Nat} {xs : List Value} (h : w.ownsRow B e size v n xs) : ∃ a c, v = .slice a n c := by
  rcases h.2 with ⟨h1, h2⟩ | ⟨g, cap, cur, h1, -⟩
  · exact ⟨none, 0, by rw [h1, h2]⟩
  · exact ⟨_, _, h1⟩
theorem OE.forms {w wr : World} {ok : Nat → Prop} {B d : Nat} {ks : List (List UInt8)} {l : List V} {kv lv : Value} (h : OE w ok B d ks l kv lv wr) : ∃ a c b e, kv = .slice a ks.length c ∧ lv = .slice b l.length e := by
  obtain ⟨cs, e1, e2, -⟩ := h
  obtain ⟨a, c, h1⟩ := own_formR e1
  obtain ⟨b, e, h2⟩ := own_formR e2
  exact ⟨a, c, b, e, h1, h2⟩
theorem OE.nil {w wr : World} {ok : Nat → Prop} {B d : Nat} (hb : Below w.heap.size w wr) (hB : w.heap.size ≤ B) : OE w ok B d [] [] (.slice none 0 0) (.slice none 0 0) wr :=
  ⟨[], World.ownsRow_nil _ _ _ _, World.ownsRow_nil _ _ _ _, rfl, by simp [Value.ownBlock], hb, hB⟩
/- The object that is made. -/
theorem OE.made {w wr : World} {ok : Nat → Prop} {B d : Nat} {ks : List (List UInt8)} {l : List V} {kv lv : Value} (h : OE w ok B d ks l kv lv wr) (hk : ∀ x ∈ ks, x.length ≤ maxLen) (h1 : ks.length ≤ 1000001) (h2 : l.length ≤ 1000001) :
    VIs wr (okN ok w.heap.size) (d + 1) ⟨5, 0, [], ks, l⟩ (.agg #[.int .i64 5, .int .i64 0, .string ⟨#[]⟩, kv, lv]) := by
  obtain ⟨cs, e1, e2, e3, e4, e5, e6⟩ := h
  refine ⟨kv, lv, rfl, by unfold I64; simp, by unfold I64; simp, by simp [maxLen], ?_, ?_⟩
  · exact own_strs rfl e1 hk (fun k hk => .inr (by omega)) (show ks.length ≤ maxLen by unfold maxLen; omega)
  · exact own_vals rfl e2 (e3.imp fun _ _ h => h.weak fun k hk => .inl hk.1) (fun k hk => .inr (by omega)) (show l.length ≤ maxLen by unfold maxLen; omega)
/- Boxes that lie below B, and what was there. -/
def SO (w : World) (n : Nat) (F : World → Prop) (kv lv : Value) (W : World) : Prop :=
  BoxIs W (w.heap.size + n) (.int .i64 5) (.int .i64 0) (.string ⟨#[]⟩) kv lv ∧ F W ∧ Below w.heap.size w W
def Stays (B : Nat) (F : World → Prop) : Prop := ∀ W W' r, F W → W.grownBy W' r → (∀ g, r = some g → B ≤ g) → F W'
theorem SO.grown {w : World} {n : Nat} {F : World → Prop} {kv lv : Value} {W W' : World} {r : Option Nat} (hF : Stays (w.heap.size + n + 1) F) (h : SO w n F kv lv W) (hg : W.grownBy W' r) (hr : ∀ g, r = some g → w.heap.size + n + 1 ≤ g) : SO w n F kv lv W' :=
  ⟨h.1.grown hg (fun e => by have := hr _ e.symm; omega), hF _ _ _ h.2.1 hg hr, gb_far h.2.2 hg (fun g e => by have := hr g e; omega)⟩
theorem SO.alloc {w : World} {n : Nat} {F : World → Prop} {kv lv : Value} {W : World} (hF : Stays (w.heap.size + n + 1) F) (h : SO w n F kv lv W) (o : Obj) : SO w n F kv lv (W.alloc o) :=
  h.grown hF (World.grownBy_alloc W o none) (by simp)
theorem SO.drew {w : World} {n : Nat} {F : World → Prop} {kv lv : Value} {W : World} (hF : Stays (w.heap.size + n + 1) F) (h : SO w n F kv lv W) : SO w n F kv lv W.drew :=
  h.grown hF (gb_drew (gb_refl W none)) (by simp)
/- Behind both stores. -/
theorem SO.stored {w : World} {n : Nat} {F : World → Prop} {kv lv kv' lv' : Value} {W : World} (hF : ∀ W i x, F W → F (W.setCell ⟨w.heap.size + n, i, none⟩ x)) (h : SO w n F kv lv W) :
    SO w n F kv' lv' ((W.setCell ⟨w.heap.size + n, 3, none⟩ kv').setCell ⟨w.heap.size + n, 4, none⟩ lv') :=
  ⟨heap_set (heap_set h.1 3 kv') 4 lv', hF _ _ _ (hF _ _ _ h.2.1), gb_none (gb_out (gb_out (gb_below h.2.2) (gb_set (gb_refl _ _) _ _) (by omega)) (gb_set (gb_refl _ _) _ _) (by omega))⟩
theorem bx_stays {B g : Nat} {c0 c1 c2 c3 c4 : Value} (h : g < B) : Stays B (fun W => BoxIs W g c0 c1 c2 c3 c4) := fun W W' r h1 h2 h3 => h1.grown h2 (fun e => by have := h3 _ e.symm; omega)
theorem zip_drop {ks : List (List UInt8)} {l : List V} {k : Nat} (h1 : k < ks.length) (h2 : k < l.length) : (ks.zip l).drop k = (ks[k], l[k]) :: (ks.zip l).drop (k + 1) := by
  have h : k < (ks.zip l).length := by simp; omega
  rw [List.drop_eq_getElem_cons h]; simp
theorem bx_set {W : World} {g g' : Nat} {c0 c1 c2 c3 c4 : Value} (h : BoxIs W g c0 c1 c2 c3 c4) (hne : g ≠ g') (i : Nat) (x : Value) : BoxIs (W.setCell ⟨g', i, none⟩ x) g c0 c1 c2 c3 c4 :=
  h.grown (gb_set (gb_refl W (some g')) i x) (by simpa using hne)
end Go.Proofs.YtaifciobaapehaaDoor

set_option linter.unusedSimpArgs false
set_option linter.unusedVariables false
namespace Go.Proofs.YtaifciobaapehaaDoor
open Go.RowKit

def FM (w : World) (t x : V) (a1 a2 a3 a4 : Option Addr) (c1 c2 c3 c4 : Nat) (W : World) : Prop := BoxIs W w.heap.size (.int .i64 t.kind) (.int .i64 t.n) (.string ⟨t.s.toArray⟩) (.slice a1 t.keys.length c1) (.slice a2 t.l.length c2) ∧ BoxIs W (w.heap.size + 1) (.int .i64 x.kind) (.int .i64 x.n) (.string ⟨x.s.toArray⟩) (.slice a3 x.keys.length c3) (.slice a4 x.l.length c4) ∧ BoxIs W (w.heap.size + 2) (.int .i64 0) (.int .i64 0) (.string ⟨#[]⟩) (.slice none 0 0) (.slice none 0 0)
theorem FM.stays (w : World) (t x : V) (a1 a2 a3 a4 : Option Addr) (c1 c2 c3 c4 : Nat) : Stays (w.heap.size + 3 + 1) (FM w t x a1 a2 a3 a4 c1 c2 c3 c4) := fun W W' r h1 h2 h3 =>
  ⟨bx_stays (B := w.heap.size + 3 + 1) (by omega) W W' r h1.1 h2 h3, bx_stays (B := w.heap.size + 3 + 1) (by omega) W W' r h1.2.1 h2 h3, bx_stays (B := w.heap.size + 3 + 1) (by omega) W W' r h1.2.2 h2 h3⟩
/- The pairs that are made; those that are to come make the rest. -/
def PI (w : World) (ok : Nat → Prop) (d : Nat) (t x : V) (a1 a2 a3 a4 : Option Addr) (c1 c2 c3 c4 : Nat) (ps : List (List UInt8 × V)) (wr : World) : Prop :=
  ∃ kv lv, SO w 3 (FM w t x a1 a2 a3 a4 c1 c2 c3 c4) kv lv wr ∧ OE w ok (w.heap.size + 3 + 1) d (ps.map Prod.fst) (ps.map Prod.snd) kv lv wr ∧ w.heap.size + 3 + 1 ≤ wr.heap.size
def WmI (w : World) (ok : Nat → Prop) (d : Nat) (t x : V) (key : List UInt8) (a1 a2 a3 a4 : Option Addr) (c1 c2 c3 c4 : Nat) (b : Bool) (k : Nat) (wr : World) : Prop :=
  ∃ ps, PI w ok d t x a1 a2 a3 a4 c1 c2 c3 c4 ps wr ∧ ps ++ wmF key x ((t.keys.zip t.l).drop k) b = wmF key x (t.keys.zip t.l) false
theorem pi_more {w W : World} {ok : Nat → Prop} {d : Nat} {t x y : V} {key : List UInt8} {a1 a2 a3 a4 : Option Addr} {c1 c2 c3 c4 : Nat} {ps : List (List UInt8 × V)} {kv lv kv' lv' : Value}
    (hs : SO w 3 (FM w t x a1 a2 a3 a4 c1 c2 c3 c4) kv lv W) (ho : OE w ok (w.heap.size + 3 + 1) d (ps.map Prod.fst ++ [key]) (ps.map Prod.snd ++ [y]) kv' lv' W) :
    PI w ok d t x a1 a2 a3 a4 c1 c2 c3 c4 (ps ++ [(key, y)]) ((W.setCell ⟨w.heap.size + 3, 3, none⟩ kv').setCell ⟨w.heap.size + 3, 4, none⟩ lv') := by
  refine ⟨kv', lv', hs.stored (fun W i x h => ⟨bx_set h.1 (by omega) i x, bx_set h.2.1 (by omega) i x, bx_set h.2.2 (by omega) i x⟩), ?_, ?_⟩
  · rw [List.map_append, List.map_append]
    exact (ho.set (by omega) (by omega) _ _).set (by omega) (by omega) _ _
  · have := hs.1.lt
    have e : ((W.setCell ⟨w.heap.size + 3, 3, none⟩ kv').setCell ⟨w.heap.size + 3, 4, none⟩ lv').heap.size = W.heap.size := by simp [World.setCell]
    omega
theorem wm_push {w W : World} {ok : Nat → Prop} {d : Nat} {t x : V} {key : List UInt8} {a1 a2 a3 a4 : Option Addr} {c1 c2 c3 c4 : Nat} {k : Nat} {ps : List (List UInt8 × V)} {kv lv kv' lv' : Value} (h1 : k < t.keys.length) (h2 : k < t.l.length) (hb : Op.bytesLess t.keys[k] key = false)
    (hps : ps ++ wmF key x ((t.keys.zip t.l).drop k) false = wmF key x (t.keys.zip t.l) false) (hs : SO w 3 (FM w t x a1 a2 a3 a4 c1 c2 c3 c4) kv lv W) (ho : OE w ok (w.heap.size + 3 + 1) d (ps.map Prod.fst ++ [key]) (ps.map Prod.snd ++ [x]) kv' lv' W) :
    WmI w ok d t x key a1 a2 a3 a4 c1 c2 c3 c4 true k ((W.setCell ⟨w.heap.size + 3, 3, none⟩ kv').setCell ⟨w.heap.size + 3, 4, none⟩ lv') := by
  refine ⟨_, pi_more hs ho, ?_⟩
  rw [← hps, zip_drop h1 h2]
  simp [wmF, hb]
theorem wm_item {w W : World} {ok : Nat → Prop} {d : Nat} {t x : V} {key : List UInt8} {a1 a2 a3 a4 : Option Addr} {c1 c2 c3 c4 : Nat} {k : Nat} {b : Bool} {ps : List (List UInt8 × V)} {kv lv kv' lv' : Value} (h1 : k < t.keys.length) (h2 : k < t.l.length) (hne : t.keys[k] ≠ key) (hb : b = false → Op.bytesLess t.keys[k] key = true)
    (hps : ps ++ wmF key x ((t.keys.zip t.l).drop k) b = wmF key x (t.keys.zip t.l) false) (hs : SO w 3 (FM w t x a1 a2 a3 a4 c1 c2 c3 c4) kv lv W) (ho : OE w ok (w.heap.size + 3 + 1) d (ps.map Prod.fst ++ [t.keys[k]]) (ps.map Prod.snd ++ [t.l[k]]) kv' lv' W) :
    WmI w ok d t x key a1 a2 a3 a4 c1 c2 c3 c4 b (k + 1) ((W.setCell ⟨w.heap.size + 3, 3, none⟩ kv').setCell ⟨w.heap.size + 3, 4, none⟩ lv') := by
  refine ⟨_, pi_more hs ho, ?_⟩
  rw [← hps, zip_drop h1 h2]
  cases b with
  | true => simp [wmF, hne]
  | false => simp [wmF, hne, hb rfl]
theorem wm_less {w wr : World} {ok : Nat → Prop} {d : Nat} {t x : V} {key : List UInt8} {a1 a2 a3 a4 : Option Addr} {c1 c2 c3 c4 : Nat} {k : Nat} {b : Bool} (h1 : k < t.keys.length) (h2 : k < t.l.length) (he : t.keys[k] = key) (hb : b = false → Op.bytesLess t.keys[k] key = true) (h : WmI w ok d t x key a1 a2 a3 a4 c1 c2 c3 c4 b k wr) : WmI w ok d t x key a1 a2 a3 a4 c1 c2 c3 c4 b (k + 1) wr := by
  obtain ⟨ps, i1, i2⟩ := h
  refine ⟨ps, i1, ?_⟩
  cases b with
  | false => have := less_ne (hb rfl); exact absurd he this
  | true =>
    rw [← i2, zip_drop h1 h2]
    simp [wmF, he]
theorem wm_len {key : List UInt8} {x : V} : ∀ (ps : List (List UInt8 × V)) (b : Bool), (wmF key x ps b).length ≤ ps.length + 1
  | [], b => by cases b <;> simp [wmF]
  | p :: r, b => by
    cases b with
    | true => rw [wm_put]; exact Nat.le_trans (List.length_filter_le _ _) (by simp)
    | false =>
      unfold wmF
      cases hb : Op.bytesLess p.1 key with
      | true =>
        have := wm_len (key := key) (x := x) r false
        by_cases h : p.1 = key <;> simp [h] <;> omega
      | false =>
        have h0 : (wmF key x r true).length ≤ r.length := by rw [wm_put]; exact List.length_filter_le _ _
        by_cases h : p.1 = key <;> simp [h] <;> omega
theorem wm_keys {key : List UInt8} {x : V} : ∀ (ps : List (List UInt8 × V)) (b : Bool), ∀ p ∈ wmF key x ps b, p.1 = key ∨ p ∈ ps
  | [], b => by cases b <;> simp [wmF]
  | q :: r, b => by
    intro p hp
    unfold wmF at hp
    simp only [List.mem_append] at hp
    rcases hp with (h | h) | h
    · split at h
      · rw [List.mem_singleton] at h; exact .inl (by rw [h])
      · cases h
    · split at h
      · rw [List.mem_singleton] at h; exact .inr (by rw [h]; simp)
      · cases h
    · rcases wm_keys r _ p h with h | h
      · exact .inl h
      · exact .inr (by simp [h])
/- Behind all. -/
theorem wm_fin {w wr : World} {ok : Nat → Prop} {d : Nat} {t x : V} {key : List UInt8} {a1 a2 a3 a4 : Option Addr} {c1 c2 c3 c4 : Nat} {ks : Value} {kv lv : Value} (ho : Ob t) (hkey : key.length ≤ maxLen) (hks : StrsAre w ok t.keys ks) (lk : t.keys.length ≤ 100000)
    (h : ∃ ps, ps = wmF key x (t.keys.zip t.l) false ∧ SO w 3 (FM w t x a1 a2 a3 a4 c1 c2 c3 c4) kv lv wr ∧ OE w ok (w.heap.size + 3 + 1) d (ps.map Prod.fst) (ps.map Prod.snd) kv lv wr) :
    VIs (set5 wr (w.heap.size + 2) (.int .i64 5) (.int .i64 0) (.string ⟨#[]⟩) kv lv) (okN ok w.heap.size) (d + 1) (withV t key x) (.agg #[.int .i64 5, .int .i64 0, .string ⟨#[]⟩, kv, lv]) ∧ Below w.heap.size w (set5 wr (w.heap.size + 2) (.int .i64 5) (.int .i64 0) (.string ⟨#[]⟩) kv lv) ∧
      (BoxIs wr (w.heap.size + 2) (.int .i64 0) (.int .i64 0) (.string ⟨#[]⟩) (.slice none 0 0) (.slice none 0 0) ∧ BoxIs wr (w.heap.size + 3) (.int .i64 5) (.int .i64 0) (.string ⟨#[]⟩) kv lv) ∧ BoxIs (set5 wr (w.heap.size + 2) (.int .i64 5) (.int .i64 0) (.string ⟨#[]⟩) kv lv) (w.heap.size + 2) (.int .i64 5) (.int .i64 0) (.string ⟨#[]⟩) kv lv := by
  obtain ⟨ps, rfl, i1, i2⟩ := h
  have hs : OE w ok (w.heap.size + 3 + 1) d _ _ kv lv (set5 wr (w.heap.size + 2) (.int .i64 5) (.int .i64 0) (.string ⟨#[]⟩) kv lv) := ((((i2.set (by omega) (by omega) _ _).set (by omega) (by omega) _ _).set (by omega) (by omega) _ _).set (by omega) (by omega) _ _).set (by omega) (by omega) _ _
  have hz : (t.keys.zip t.l).length ≤ 100000 := by simp; omega
  have hl := wm_len (key := key) (x := x) (t.keys.zip t.l) false
  refine ⟨?_, hs.below, ⟨i1.2.1.2.2, i1.1⟩, i1.2.1.2.2.set _ _ _ _ _⟩
  rw [← wm_with ho key x]
  refine hs.made ?_ (by rw [List.length_map]; omega) (by rw [List.length_map]; omega)
  intro y hy
  rw [List.mem_map] at hy
  obtain ⟨p, hp, rfl⟩ := hy
  rcases wm_keys _ _ p hp with h | h
  · rw [h]; exact hkey
  · exact hks.mem _ (List.of_mem_zip h).1
theorem wm_end {w W : World} {ok : Nat → Prop} {d : Nat} {t x : V} {key : List UInt8} {a1 a2 a3 a4 : Option Addr} {c1 c2 c3 c4 : Nat} {ps : List (List UInt8 × V)} {kv lv kv' lv' : Value} (hps : ps ++ [(key, x)] = wmF key x (t.keys.zip t.l) false)
    (hs : SO w 3 (FM w t x a1 a2 a3 a4 c1 c2 c3 c4) kv lv W) (ho : OE w ok (w.heap.size + 3 + 1) d (ps.map Prod.fst ++ [key]) (ps.map Prod.snd ++ [x]) kv' lv' W) :
    ∃ qs, qs = wmF key x (t.keys.zip t.l) false ∧ SO w 3 (FM w t x a1 a2 a3 a4 c1 c2 c3 c4) kv' lv' ((W.setCell ⟨w.heap.size + 3, 3, none⟩ kv').setCell ⟨w.heap.size + 3, 4, none⟩ lv') ∧ OE w ok (w.heap.size + 3 + 1) d (qs.map Prod.fst) (qs.map Prod.snd) kv' lv' ((W.setCell ⟨w.heap.size + 3, 3, none⟩ kv').setCell ⟨w.heap.size + 3, 4, none⟩ lv') := by
  refine ⟨_, hps, hs.stored (fun W i x h => ⟨bx_set h.1 (by omega) i x, bx_set h.2.1 (by omega) i x, bx_set h.2.2 (by omega) i x⟩), ?_⟩
  rw [List.map_append, List.map_append]
  exact (ho.set (by omega) (by omega) _ _).set (by omega) (by omega) _ _

attribute [local go_sem ↓] Go.wp_at_zero Go.wp_at_succ
set_option maxRecDepth 100000 in
set_option maxHeartbeats 4000000 in
theorem rwith_at (w : World) (ok : Nat → Prop) (d : Nat) (t x : V) (v xv : Value) (key : List UInt8) (h : VIs w ok (d + 1) t v) (hx : VIs w ok d x xv) (ho : Ob t) (hl : t.l.length ≤ 100000) (hkey : key.length ≤ maxLen) :
    Calls Tryd.prog 54 #[v, str key, xv] w fun e w' => ∃ r, e = .returned r ∧ VIs w' (okN ok w.heap.size) (d + 1) (withV t key x) r ∧ Below w.heap.size w w' := by
  obtain ⟨a1, a2, c1, c2, rfl⟩ := h.shape
  obtain ⟨a3, a4, c3, c4, rfl⟩ := hx.shape
  have OB := hidI ho
  have HL := hidI ho.2.2.2.1
  have VV : Hid (ValsAre w ok (VIs w ok d) t.l (.slice a2 t.l.length c2) ∧ StrsAre w ok t.keys (.slice a1 t.keys.length c1)) := hidI (by
    obtain ⟨ks, ls, e, h1, h2, h3, h4, h5⟩ := h
    simp only [Value.agg.injEq, Array.mk.injEq, List.cons.injEq, and_true] at e
    obtain ⟨-, -, -, rfl, rfl⟩ := e
    exact ⟨h5, h4⟩)
  have HX := hidI hx.below
  have lk : t.keys.length ≤ 100000 := by rw [HL.out]; exact hl
  clear h ho hx
  unfold str
  have HF : Hid _ := hidI (FM.stays w t x a1 a2 a3 a4 c1 c2 c3 c4)
  have I0 : Hid (WmI w ok d t x key a1 a2 a3 a4 c1 c2 c3 c4 false 0 ((((w.alloc (.cells #[.int .i64 t.kind, .int .i64 t.n, .string ⟨t.s.toArray⟩, .slice a1 t.keys.length c1, .slice a2 t.l.length c2] 25)).alloc (.cells #[.int .i64 x.kind, .int .i64 x.n, .string ⟨x.s.toArray⟩, .slice a3 x.keys.length c3, .slice a4 x.l.length c4] 25)).alloc (.cells #[.int .i64 0, .int .i64 0, .string ⟨#[]⟩, .slice none 0 0, .slice none 0 0] 25)).alloc (.cells #[.int .i64 5, .int .i64 0, .string ⟨#[]⟩, .slice none 0 0, .slice none 0 0] 25))) := hidI (by
    have hb : Below w.heap.size w ((((w.alloc (.cells #[.int .i64 t.kind, .int .i64 t.n, .string ⟨t.s.toArray⟩, .slice a1 t.keys.length c1, .slice a2 t.l.length c2] 25)).alloc (.cells #[.int .i64 x.kind, .int .i64 x.n, .string ⟨x.s.toArray⟩, .slice a3 x.keys.length c3, .slice a4 x.l.length c4] 25)).alloc (.cells #[.int .i64 0, .int .i64 0, .string ⟨#[]⟩, .slice none 0 0, .slice none 0 0] 25)).alloc (.cells #[.int .i64 5, .int .i64 0, .string ⟨#[]⟩, .slice none 0 0, .slice none 0 0] 25)) := bel_trans (bel_trans (bel_trans (bel_alloc _ _) (bel_alloc _ _)) (bel_alloc _ _)) (bel_alloc _ _)
    refine ⟨[], ⟨.slice none 0 0, .slice none 0 0, ⟨?_, ⟨?_, ?_, ?_⟩, hb⟩, OE.nil hb (by omega), by simp⟩, by simp⟩
    · exact h4dd w _ _ _ _
    · exact box_bel (bel_alloc _ _) (h3a w _ _ _)
    · exact box_bel (bel_alloc _ _) (h3b w _ _ _)
    · exact box_bel (bel_alloc _ _) (h3c w _ _ _))
  go_enter Tryd.func54, Tryd.ntmps54
  go_wp2_with fail
  go_loopg [8, 15] t.keys.length (fun gk p i wr => ∃ (k : Nat) (b : Bool), k ≤ t.keys.length ∧ gk = t.keys.length - k ∧ i = .int .i64 k ∧ p = .bool b ∧ WmI w ok d t x key a1 a2 a3 a4 c1 c2 c3 c4 b k wr)
  case atStart => exact ⟨0, false, Nat.zero_le _, rfl, rfl, rfl, I0.out⟩
  case round =>
    obtain ⟨k, b, hk, hgk, rfl, rfl, hI⟩ := hrel
    have GK := hidI hgk
    have II := hidI hI
    clear hgk hI I0
    by_cases hlt : k < t.keys.length
    · have hlt' : k < t.l.length := by have := HL.out; omega
      obtain ⟨kb, ko, rfl, j1, j2, jk⟩ := strs_at VV.out.2 hlt
      have w1 : (0 : Int) ≤ (k : Int) := by omega
      have w2 : (k : Int) < (t.keys.length : Int) := by omega
      have w3 : (k : Int) < (t.l.length : Int) := by omega
      unfold maxLen at j2
      have jk2 := cell_bel (by obtain ⟨ps, ⟨kv, lv, i1, -⟩, -⟩ := II.out; exact i1.2.2) jk
      cases b with
      | true =>
        go_upto_if 26 with fail
        go_cut [8] from 16 to 58 (fun p wc => ∃ b : Bool, p = .bool b ∧ WmI w ok d t x key (some ⟨kb, ko, none⟩) a2 a3 a4 c1 c2 c3 c4 b k wc ∧ (b = false → Op.bytesLess (t.keys[k]'hlt) key = true))
        case first =>
          go_wp2_with fail
          go_meet
          case rel => exact ⟨true, rfl, II.out, by simp⟩
        case rest =>
          obtain ⟨b, rfl, hI, hbl⟩ := hcut
          have II := hidI hI
          have HBL := hidI hbl
          clear hI hbl
          by_cases he : t.keys[k] = key
          · have e3 : (t.keys[k] == key) = true := by simp [he]
            have HN := hidI (wm_less hlt hlt' he HBL.out II.out)
            clear he
            go_wp2_with fail
            go_roundg (t.keys.length - (k + 1))
            case measure => rw [GK.out]; omega
            case rel => exact ⟨k + 1, b, hlt, rfl, by go_num, rfl, HN.out⟩
          · have e3 : (t.keys[k] == key) = false := by simp [he]
            have HNE := hidI he
            obtain ⟨xb, xo, rfl, j3, j4, a5, c5, a6, c6, g0, g1, g2, g3, g4, g5⟩ := vals_at VV.out.1 hlt'
            unfold maxLen at j4
            have G0 := hidI g0
            have G1 := hidI g1
            have G2 := hidI g2
            have G3 := hidI g3
            have G4 := hidI g4
            have HY := hidI g5.below
            obtain ⟨ps, ⟨kv, lv, i1, i2, i4⟩, i3⟩ := II.out
            have HPS := hidI i3
            have hpl : ps.length ≤ 100001 := by
              have h0 := congrArg List.length i3
              have h1 := wm_len (key := key) (x := x) (t.keys.zip t.l) false
              simp at h0 h1
              omega
            have hnk : (ps.map Prod.fst).length ≤ 1000000 := by rw [List.length_map]; omega
            have hnl : (ps.map Prod.snd).length ≤ 1000000 := by rw [List.length_map]; omega
            have OEc := hidI i2
            have hBc : w.heap.size + 3 + 1 ≤ wc.heap.size := i4
            have SOc := hidI i1
            have LK : Hid (∀ g, kv.ownBlock = some g → g < wc.heap.size) := hidI (fun g e => (i2.kown g e).2)
            clear he g0 g1 g2 g3 g4 g5 i1 i2 i3 i4 hpl
            go_upto_region 10 with fail
            refine wp_region_T (SO w 3 (FM w t x (some ⟨kb, ko, none⟩) (some ⟨xb, xo, none⟩) a3 a4 c1 c2 c3 c4) kv lv) [15] (by kernel_rfl) (SOc.out.drew HF.out) (fun hHeld => ?_)
            refine wpAnyT_take (i := 0) (v := ?_) [1, 4, 13, 14, 15, 16, 17] (oi := _) rfl (by kernel_rfl) (by kernel_rfl) (by kernel_rfl) (by kernel_rfl) (fun _ _ _ h => h) (Or.inl ⟨by rfl, ?_⟩) hHeld ?_
            rotate_left
            · intro wS hSw
              go_simp
              all_goals with_reducible rfl
            simp only [Act.put, List.setIfInBounds_toArray, List.set_cons_zero, List.set_cons_succ]
            refine wpAnyT_take (i := 1) (v := ?_) [4, 13, 14, 15, 16, 17] (oi := _) rfl (by kernel_rfl) (by kernel_rfl) (by kernel_rfl) (by kernel_rfl) (fun _ _ _ h => h) (Or.inl ⟨by rfl, ?_⟩) hHeld ?_
            rotate_left
            · intro wS hSw
              obtain ⟨s1, ⟨s2, s3, s5⟩, s4⟩ := hSw
              obtain ⟨x0, x1, x2, x3, x4, -⟩ := s1.c
              obtain ⟨y0, y1, y2, y3, y4, -⟩ := s2.c
              obtain ⟨z0, z1, z2, z3, z4, -⟩ := s3.c
              have e0 := cell_bel s4 G0.out
              have e1 := cell_bel s4 G1.out
              have e2 := cell_bel s4 G2.out
              have e3 := cell_bel s4 G3.out
              have e4 := cell_bel s4 G4.out
              go_simp
              all_goals with_reducible rfl
            simp only [Act.put, List.setIfInBounds_toArray, List.set_cons_zero, List.set_cons_succ]
            refine wpAnyT_take (i := 2) (v := ?_) [3, 4, 13, 14, 15, 16, 17] (oi := _) rfl (by kernel_rfl) (by kernel_rfl) (by kernel_rfl) (by kernel_rfl) (fun _ _ _ h => h) (Or.inl ⟨by rfl, ?_⟩) hHeld ?_
            rotate_left
            · intro wS hSw
              go_simp
              all_goals with_reducible rfl
            simp only [Act.put, List.setIfInBounds_toArray, List.set_cons_zero, List.set_cons_succ]
            refine wpAnyT_take (i := 5) (v := ?_) [6, 13, 14, 15, 16, 17] (oi := _) rfl (by kernel_rfl) (by kernel_rfl) (by kernel_rfl) (by kernel_rfl) (fun _ _ _ h => h) (Or.inl ⟨by rfl, ?_⟩) hHeld ?_
            rotate_left
            · intro wS hSw
              go_simp
              all_goals with_reducible rfl
            simp only [Act.put, List.setIfInBounds_toArray, List.set_cons_zero, List.set_cons_succ]
            refine wpAnyT_take (i := 6) (v := ?_) [13, 14, 15, 16, 17] (oi := _) rfl (by kernel_rfl) (by kernel_rfl) (by kernel_rfl) (by kernel_rfl) (fun _ _ _ h => h) (Or.inl ⟨by rfl, ?_⟩) hHeld ?_
            rotate_left
            · intro wS hSw
              obtain ⟨s1, ⟨s2, s3, s5⟩, s4⟩ := hSw
              obtain ⟨x0, x1, x2, x3, x4, -⟩ := s1.c
              obtain ⟨y0, y1, y2, y3, y4, -⟩ := s2.c
              obtain ⟨z0, z1, z2, z3, z4, -⟩ := s3.c
              have e0 := cell_bel s4 G0.out
              have e1 := cell_bel s4 G1.out
              have e2 := cell_bel s4 G2.out
              have e3 := cell_bel s4 G3.out
              have e4 := cell_bel s4 G4.out
              go_simp
              all_goals with_reducible rfl
            simp only [Act.put, List.setIfInBounds_toArray, List.set_cons_zero, List.set_cons_succ]
            refine wpAnyT_take (i := 7) (v := ?_) [8, 10, 11, 12, 13, 15, 16, 17] (oi := _) rfl (by kernel_rfl) (by kernel_rfl) (by kernel_rfl) (by kernel_rfl) (fun _ _ _ h => h) (Or.inl ⟨by rfl, ?_⟩) hHeld ?_
            rotate_left
            · intro wS hSw
              go_simp
              all_goals with_reducible rfl
            simp only [Act.put, List.setIfInBounds_toArray, List.set_cons_zero, List.set_cons_succ]
            refine wpAnyT_take (i := 8) (v := ?_) [10, 11, 12, 13, 15, 16, 17] (oi := _) rfl (by kernel_rfl) (by kernel_rfl) (by kernel_rfl) (by kernel_rfl) (fun _ _ _ h => h) (Or.inl ⟨by rfl, ?_⟩) hHeld ?_
            rotate_left
            · intro wS hSw
              obtain ⟨s1, ⟨s2, s3, s5⟩, s4⟩ := hSw
              obtain ⟨x0, x1, x2, x3, x4, -⟩ := s1.c
              obtain ⟨y0, y1, y2, y3, y4, -⟩ := s2.c
              obtain ⟨z0, z1, z2, z3, z4, -⟩ := s3.c
              have e0 := cell_bel s4 G0.out
              have e1 := cell_bel s4 G1.out
              have e2 := cell_bel s4 G2.out
              have e3 := cell_bel s4 G3.out
              have e4 := cell_bel s4 G4.out
              go_simp
              all_goals with_reducible rfl
            simp only [Act.put, List.setIfInBounds_toArray, List.set_cons_zero, List.set_cons_succ]
            refine wpAnyT_take (i := 9) (v := ?_) [10, 11, 12, 13, 15, 16, 17] (oi := _) rfl (by kernel_rfl) (by kernel_rfl) (by kernel_rfl) (by kernel_rfl) (fun _ _ _ h => h) (Or.inl ⟨by rfl, ?_⟩) hHeld ?_
            rotate_left
            · intro wS hSw
              go_simp
              all_goals with_reducible rfl
            simp only [Act.put, List.setIfInBounds_toArray, List.set_cons_zero, List.set_cons_succ]
            refine wpAnyT_take (i := 10) (v := ?_) [11, 12, 13, 15, 16, 17] (oi := _) rfl (by kernel_rfl) (by kernel_rfl) (by kernel_rfl) (by kernel_rfl) (fun _ _ _ h => h) (Or.inl ⟨by rfl, ?_⟩) hHeld ?_
            rotate_left
            · intro wS hSw
              go_simp
              all_goals with_reducible rfl
            simp only [Act.put, List.setIfInBounds_toArray, List.set_cons_zero, List.set_cons_succ]
            refine wpAnyT_take (i := 11) (v := ?_) [12, 13, 15, 16, 17] (oi := _) rfl (by kernel_rfl) (by kernel_rfl) (by kernel_rfl) (by kernel_rfl) (fun _ _ _ h => h) (Or.inl ⟨by rfl, ?_⟩) hHeld ?_
            rotate_left
            · intro wS hSw
              obtain ⟨s1, ⟨s2, s3, s5⟩, s4⟩ := hSw
              obtain ⟨x0, x1, x2, x3, x4, -⟩ := s1.c
              obtain ⟨y0, y1, y2, y3, y4, -⟩ := s2.c
              obtain ⟨z0, z1, z2, z3, z4, -⟩ := s3.c
              have e0 := cell_bel s4 G0.out
              have e1 := cell_bel s4 G1.out
              have e2 := cell_bel s4 G2.out
              have e3 := cell_bel s4 G3.out
              have e4 := cell_bel s4 G4.out
              go_simp
              all_goals with_reducible rfl
            simp only [Act.put, List.setIfInBounds_toArray, List.set_cons_zero, List.set_cons_succ]
            refine wpAnyT_ready (rs := [3, 12]) (by kernel_rfl) (by simp) ?_
            refine AllReadyT.cons (i := 3) (o := _) rfl (fun K hK => ?_) ?_
            · go_simp
              replace SOc := hidI (SOc.out.alloc HF.out (.cells #[.string ⟨t.keys[k].toArray⟩] 9))
              replace OEc := hidI (OEc.out.bel (bel_alloc _ (.cells #[.string ⟨t.keys[k].toArray⟩] 9)))
              replace hBc := Nat.le_trans hBc (bel_alloc _ (.cells #[.string ⟨t.keys[k].toArray⟩] 9)).size
              have NBK : Hid ((wc.alloc (.cells #[.string ⟨t.keys[k].toArray⟩] 9)).heap[wc.heap.size]? = some (.cells #[.string ⟨t.keys[k].toArray⟩] 9)) := hidI (heap_alloc_new _ _)
              refine hK.out _ _ (SOc.out.drew HF.out) (fun hHeld2 => ?_)
              clear hK K
              replace hHeld := hHeld2
              clear hHeld2
              try simp only [Act.put, List.setIfInBounds_toArray, List.set_cons_zero, List.set_cons_succ]
              refine wpAnyT_ready (rs := [4, 12]) (by kernel_rfl) (by simp) ?_
              refine AllReadyT.cons (i := 4) (o := _) rfl (fun K hK => ?_) ?_
              · have OEd := hidI OEc.out.drew
                have NBd : Hid (((wc.alloc (.cells #[.string ⟨t.keys[k].toArray⟩] 9)).drew).heap[wc.heap.size]? = some (.cells #[.string ⟨t.keys[k].toArray⟩] 9)) := hidI NBK.out
                refine step_run (by rfl) (.tmp 43) (.tmp 45) 22 (by rfl) _ _ rfl rfl _ (fun ty => OEd.out.key NBd.out hnk (by exact hBc) ty) (fun v9 W9 hR => ?_)
                obtain ⟨ho9, hg9, gK, cK, rfl⟩ := hR
                replace SOc := hidI (hHeld.grown HF.out hg9 (fun g e => (OEd.out.kown g e).1))
                refine hK.out _ _ SOc.out (fun hHeld2 => ?_)
                replace OEc := hidI ho9
                replace hBc := Nat.le_trans (by exact hBc) hg9.size
                clear ho9 hg9 OEd NBd
                clear hK K
                replace hHeld := hHeld2
                clear hHeld2
                try simp only [Act.put, List.setIfInBounds_toArray, List.set_cons_zero, List.set_cons_succ]
                refine wpAnyT_take (i := 14) (v := ?_) [15, 16, 17] (oi := _) rfl (by kernel_rfl) (by kernel_rfl) (by kernel_rfl) (by kernel_rfl) (fun _ _ _ h => h) (Or.inl ⟨by rfl, ?_⟩) hHeld ?_
                rotate_left
                · intro wS hSw
                  go_simp
                  all_goals with_reducible rfl
                simp only [Act.put, List.setIfInBounds_toArray, List.set_cons_zero, List.set_cons_succ]
                refine wpAnyT_ready (rs := [12]) (by kernel_rfl) (by simp) ?_
                refine AllReadyT.cons (i := 12) (o := _) rfl (fun K hK => ?_) ?_
                · go_simp
                  replace SOc := hidI (SOc.out.alloc HF.out (.cells #[.int .i64 t.l[k].kind, .int .i64 t.l[k].n, .string ⟨t.l[k].s.toArray⟩, .slice a5 t.l[k].keys.length c5, .slice a6 t.l[k].l.length c6] 25))
                  replace OEc := hidI (OEc.out.bel (bel_alloc _ (.cells #[.int .i64 t.l[k].kind, .int .i64 t.l[k].n, .string ⟨t.l[k].s.toArray⟩, .slice a5 t.l[k].keys.length c5, .slice a6 t.l[k].l.length c6] 25)))
                  replace hBc := Nat.le_trans hBc (bel_alloc _ (.cells #[.int .i64 t.l[k].kind, .int .i64 t.l[k].n, .string ⟨t.l[k].s.toArray⟩, .slice a5 t.l[k].keys.length c5, .slice a6 t.l[k].l.length c6] 25)).size
                  have NBV : Hid ((W9.alloc (.cells #[.int .i64 t.l[k].kind, .int .i64 t.l[k].n, .string ⟨t.l[k].s.toArray⟩, .slice a5 t.l[k].keys.length c5, .slice a6 t.l[k].l.length c6] 25)).heap[W9.heap.size]? = some (.cells #[.int .i64 t.l[k].kind, .int .i64 t.l[k].n, .string ⟨t.l[k].s.toArray⟩, .slice a5 t.l[k].keys.length c5, .slice a6 t.l[k].l.length c6] 25)) := hidI (heap_alloc_new _ _)
                  refine hK.out _ _ (SOc.out) (fun hHeld2 => ?_)
                  clear hK K
                  replace hHeld := hHeld2
                  clear hHeld2
                  try simp only [Act.put, List.setIfInBounds_toArray, List.set_cons_zero, List.set_cons_succ]
                  refine wpAnyT_ready (rs := [13]) (by kernel_rfl) (by simp) ?_
                  refine AllReadyT.cons (i := 13) (o := _) rfl (fun K hK => ?_) ?_
                  · have OEd := hidI OEc.out
                    have HY2 := hidI (HY.out.bel OEd.out.below)
                    have NBd := hidI NBV.out
                    refine step_run (by rfl) (.tmp 48) (.tmp 54) 23 (by rfl) _ _ rfl rfl _ (fun ty => OEd.out.item NBd.out HY2.out hnl (by exact hBc) ty) (fun v9 W9 hR => ?_)
                    obtain ⟨ho9, hg9, gV, cV, rfl⟩ := hR
                    replace SOc := hidI (hHeld.grown HF.out hg9 (fun g e => (OEd.out.lown g e).1))
                    refine hK.out _ _ SOc.out (fun hHeld2 => ?_)
                    replace OEc := hidI ho9
                    replace hBc := Nat.le_trans (by exact hBc) hg9.size
                    clear ho9 hg9 OEd NBd
                    clear hK K
                    replace hHeld := hHeld2
                    clear hHeld2
                    try simp only [Act.put, List.setIfInBounds_toArray, List.set_cons_zero, List.set_cons_succ]
                    obtain ⟨o0, o1, o2, o3, o4, f0, f1, f2, f3, f4⟩ := hHeld.1.c
                    have HE := hidI hHeld
                    clear hHeld
                    refine wpAnyT_last (i := 15) (o := _) (by kernel_rfl) (by rfl) rfl (fun K hK => ?_)
                    go_simp
                    refine hK.out _ _ ?_
                    clear hK K
                    try simp only [Act.put, List.setIfInBounds_toArray, List.set_cons_zero, List.set_cons_succ]
                    refine wpAnyT_last (i := 16) (o := _) (by kernel_rfl) (by rfl) rfl (fun K hK => ?_)
                    go_simp
                    refine hK.out _ _ ?_
                    clear hK K
                    try simp only [Act.put, List.setIfInBounds_toArray, List.set_cons_zero, List.set_cons_succ]
                    refine wpAnyT_last (i := 17) (o := _) (by kernel_rfl) (by rfl) rfl (fun K hK => ?_)
                    go_simp
                    refine hK.out _ _ ?_
                    clear hK K
                    try simp only [Act.put, List.setIfInBounds_toArray, List.set_cons_zero, List.set_cons_succ]
                    refine wpAnyT_done (by kernel_rfl) ?_ _
                    go_wp2_with fail
                    go_roundg (t.keys.length - (k + 1))
                    case measure => rw [GK.out]; omega
                    case rel => exact ⟨k + 1, b, hlt, rfl, by go_num, rfl, wm_item hlt hlt' HNE.out HBL.out HPS.out HE.out (by have h9 := OEc.out; simp only [List.length_map] at h9; exact h9)⟩
                  exact AllReadyT.nil
                exact AllReadyT.nil
              refine AllReadyT.cons (i := 12) (o := _) rfl (fun K hK => ?_) ?_
              · go_simp
                replace SOc := hidI (SOc.out.alloc HF.out (.cells #[.int .i64 t.l[k].kind, .int .i64 t.l[k].n, .string ⟨t.l[k].s.toArray⟩, .slice a5 t.l[k].keys.length c5, .slice a6 t.l[k].l.length c6] 25))
                replace OEc := hidI (OEc.out.bel (bel_alloc _ (.cells #[.int .i64 t.l[k].kind, .int .i64 t.l[k].n, .string ⟨t.l[k].s.toArray⟩, .slice a5 t.l[k].keys.length c5, .slice a6 t.l[k].l.length c6] 25)))
                replace hBc := Nat.le_trans hBc (bel_alloc _ (.cells #[.int .i64 t.l[k].kind, .int .i64 t.l[k].n, .string ⟨t.l[k].s.toArray⟩, .slice a5 t.l[k].keys.length c5, .slice a6 t.l[k].l.length c6] 25)).size
                clear NBK
                have NBK : Hid (((wc.alloc (.cells #[.string ⟨t.keys[k].toArray⟩] 9)).alloc (.cells #[.int .i64 t.l[k].kind, .int .i64 t.l[k].n, .string ⟨t.l[k].s.toArray⟩, .slice a5 t.l[k].keys.length c5, .slice a6 t.l[k].l.length c6] 25)).heap[wc.heap.size]? = some (.cells #[.string ⟨t.keys[k].toArray⟩] 9)) := hidI (h2a _ _ _)
                have NBV : Hid (((wc.alloc (.cells #[.string ⟨t.keys[k].toArray⟩] 9)).alloc (.cells #[.int .i64 t.l[k].kind, .int .i64 t.l[k].n, .string ⟨t.l[k].s.toArray⟩, .slice a5 t.l[k].keys.length c5, .slice a6 t.l[k].l.length c6] 25)).heap[wc.heap.size + 1]? = some (.cells #[.int .i64 t.l[k].kind, .int .i64 t.l[k].n, .string ⟨t.l[k].s.toArray⟩, .slice a5 t.l[k].keys.length c5, .slice a6 t.l[k].l.length c6] 25)) := hidI (h2b _ _ _)
                refine hK.out _ _ (SOc.out.drew HF.out) (fun hHeld2 => ?_)
                clear hK K
                replace hHeld := hHeld2
                clear hHeld2
                try simp only [Act.put, List.setIfInBounds_toArray, List.set_cons_zero, List.set_cons_succ]
                refine wpAnyT_ready (rs := [4]) (by kernel_rfl) (by simp) ?_
                refine AllReadyT.cons (i := 4) (o := _) rfl (fun K hK => ?_) ?_
                · have OEd := hidI OEc.out.drew
                  have NBd : Hid ((((wc.alloc (.cells #[.string ⟨t.keys[k].toArray⟩] 9)).alloc (.cells #[.int .i64 t.l[k].kind, .int .i64 t.l[k].n, .string ⟨t.l[k].s.toArray⟩, .slice a5 t.l[k].keys.length c5, .slice a6 t.l[k].l.length c6] 25)).drew).heap[wc.heap.size]? = some (.cells #[.string ⟨t.keys[k].toArray⟩] 9)) := hidI NBK.out
                  refine step_run (by rfl) (.tmp 43) (.tmp 45) 22 (by rfl) _ _ rfl rfl _ (fun ty => OEd.out.key NBd.out hnk (by exact hBc) ty) (fun v9 W9 hR => ?_)
                  obtain ⟨ho9, hg9, gK, cK, rfl⟩ := hR
                  replace SOc := hidI (hHeld.grown HF.out hg9 (fun g e => (OEd.out.kown g e).1))
                  refine hK.out _ _ SOc.out (fun hHeld2 => ?_)
                  replace NBV := hidI (nb_grown ((by exact NBV.out : (((wc.alloc (.cells #[.string ⟨t.keys[k].toArray⟩] 9)).alloc (.cells #[.int .i64 t.l[k].kind, .int .i64 t.l[k].n, .string ⟨t.l[k].s.toArray⟩, .slice a5 t.l[k].keys.length c5, .slice a6 t.l[k].l.length c6] 25)).drew).heap[wc.heap.size + 1]? = some (.cells #[.int .i64 t.l[k].kind, .int .i64 t.l[k].n, .string ⟨t.l[k].s.toArray⟩, .slice a5 t.l[k].keys.length c5, .slice a6 t.l[k].l.length c6] 25))) hg9 (fun e => by have := LK.out _ e.symm; omega))
                  replace OEc := hidI ho9
                  replace hBc := Nat.le_trans (by exact hBc) hg9.size
                  clear ho9 hg9 OEd NBd
                  clear hK K
                  replace hHeld := hHeld2
                  clear hHeld2
                  try simp only [Act.put, List.setIfInBounds_toArray, List.set_cons_zero, List.set_cons_succ]
                  refine wpAnyT_take (i := 14) (v := ?_) [15, 16, 17] (oi := _) rfl (by kernel_rfl) (by kernel_rfl) (by kernel_rfl) (by kernel_rfl) (fun _ _ _ h => h) (Or.inl ⟨by rfl, ?_⟩) hHeld ?_
                  rotate_left
                  · intro wS hSw
                    go_simp
                    all_goals with_reducible rfl
                  simp only [Act.put, List.setIfInBounds_toArray, List.set_cons_zero, List.set_cons_succ]
                  refine wpAnyT_ready (rs := [13]) (by kernel_rfl) (by simp) ?_
                  refine AllReadyT.cons (i := 13) (o := _) rfl (fun K hK => ?_) ?_
                  · have OEd := hidI OEc.out
                    have HY2 := hidI (HY.out.bel OEd.out.below)
                    have NBd := hidI NBV.out
                    refine step_run (by rfl) (.tmp 48) (.tmp 54) 23 (by rfl) _ _ rfl rfl _ (fun ty => OEd.out.item NBd.out HY2.out hnl (by exact hBc) ty) (fun v9 W9 hR => ?_)
                    obtain ⟨ho9, hg9, gV, cV, rfl⟩ := hR
                    replace SOc := hidI (hHeld.grown HF.out hg9 (fun g e => (OEd.out.lown g e).1))
                    refine hK.out _ _ SOc.out (fun hHeld2 => ?_)
                    replace OEc := hidI ho9
                    replace hBc := Nat.le_trans (by exact hBc) hg9.size
                    clear ho9 hg9 OEd NBd
                    clear hK K
                    replace hHeld := hHeld2
                    clear hHeld2
                    try simp only [Act.put, List.setIfInBounds_toArray, List.set_cons_zero, List.set_cons_succ]
                    obtain ⟨o0, o1, o2, o3, o4, f0, f1, f2, f3, f4⟩ := hHeld.1.c
                    have HE := hidI hHeld
                    clear hHeld
                    refine wpAnyT_last (i := 15) (o := _) (by kernel_rfl) (by rfl) rfl (fun K hK => ?_)
                    go_simp
                    refine hK.out _ _ ?_
                    clear hK K
                    try simp only [Act.put, List.setIfInBounds_toArray, List.set_cons_zero, List.set_cons_succ]
                    refine wpAnyT_last (i := 16) (o := _) (by kernel_rfl) (by rfl) rfl (fun K hK => ?_)
                    go_simp
                    refine hK.out _ _ ?_
                    clear hK K
                    try simp only [Act.put, List.setIfInBounds_toArray, List.set_cons_zero, List.set_cons_succ]
                    refine wpAnyT_last (i := 17) (o := _) (by kernel_rfl) (by rfl) rfl (fun K hK => ?_)
                    go_simp
                    refine hK.out _ _ ?_
                    clear hK K
                    try simp only [Act.put, List.setIfInBounds_toArray, List.set_cons_zero, List.set_cons_succ]
                    refine wpAnyT_done (by kernel_rfl) ?_ _
                    go_wp2_with fail
                    go_roundg (t.keys.length - (k + 1))
                    case measure => rw [GK.out]; omega
                    case rel => exact ⟨k + 1, b, hlt, rfl, by go_num, rfl, wm_item hlt hlt' HNE.out HBL.out HPS.out HE.out (by have h9 := OEc.out; simp only [List.length_map] at h9; exact h9)⟩
                  exact AllReadyT.nil
                exact AllReadyT.nil
              exact AllReadyT.nil
            refine AllReadyT.cons (i := 12) (o := _) rfl (fun K hK => ?_) ?_
            · go_simp
              replace SOc := hidI (SOc.out.alloc HF.out (.cells #[.int .i64 t.l[k].kind, .int .i64 t.l[k].n, .string ⟨t.l[k].s.toArray⟩, .slice a5 t.l[k].keys.length c5, .slice a6 t.l[k].l.length c6] 25))
              replace OEc := hidI (OEc.out.bel (bel_alloc _ (.cells #[.int .i64 t.l[k].kind, .int .i64 t.l[k].n, .string ⟨t.l[k].s.toArray⟩, .slice a5 t.l[k].keys.length c5, .slice a6 t.l[k].l.length c6] 25)))
              replace hBc := Nat.le_trans hBc (bel_alloc _ (.cells #[.int .i64 t.l[k].kind, .int .i64 t.l[k].n, .string ⟨t.l[k].s.toArray⟩, .slice a5 t.l[k].keys.length c5, .slice a6 t.l[k].l.length c6] 25)).size
              have NBV : Hid ((wc.alloc (.cells #[.int .i64 t.l[k].kind, .int .i64 t.l[k].n, .string ⟨t.l[k].s.toArray⟩, .slice a5 t.l[k].keys.length c5, .slice a6 t.l[k].l.length c6] 25)).heap[wc.heap.size]? = some (.cells #[.int .i64 t.l[k].kind, .int .i64 t.l[k].n, .string ⟨t.l[k].s.toArray⟩, .slice a5 t.l[k].keys.length c5, .slice a6 t.l[k].l.length c6] 25)) := hidI (heap_alloc_new _ _)
              refine hK.out _ _ (SOc.out.drew HF.out) (fun hHeld2 => ?_)
              clear hK K
              replace hHeld := hHeld2
              clear hHeld2
              try simp only [Act.put, List.setIfInBounds_toArray, List.set_cons_zero, List.set_cons_succ]
              refine wpAnyT_ready (rs := [3]) (by kernel_rfl) (by simp) ?_
              refine AllReadyT.cons (i := 3) (o := _) rfl (fun K hK => ?_) ?_
              · go_simp
                replace SOc := hidI (SOc.out.alloc HF.out (.cells #[.string ⟨t.keys[k].toArray⟩] 9))
                replace OEc := hidI (OEc.out.bel (bel_alloc _ (.cells #[.string ⟨t.keys[k].toArray⟩] 9)))
                replace hBc := Nat.le_trans hBc (bel_alloc _ (.cells #[.string ⟨t.keys[k].toArray⟩] 9)).size
                clear NBV
                have NBV : Hid (((wc.alloc (.cells #[.int .i64 t.l[k].kind, .int .i64 t.l[k].n, .string ⟨t.l[k].s.toArray⟩, .slice a5 t.l[k].keys.length c5, .slice a6 t.l[k].l.length c6] 25)).alloc (.cells #[.string ⟨t.keys[k].toArray⟩] 9)).heap[wc.heap.size]? = some (.cells #[.int .i64 t.l[k].kind, .int .i64 t.l[k].n, .string ⟨t.l[k].s.toArray⟩, .slice a5 t.l[k].keys.length c5, .slice a6 t.l[k].l.length c6] 25)) := hidI (h2a _ _ _)
                have NBK : Hid (((wc.alloc (.cells #[.int .i64 t.l[k].kind, .int .i64 t.l[k].n, .string ⟨t.l[k].s.toArray⟩, .slice a5 t.l[k].keys.length c5, .slice a6 t.l[k].l.length c6] 25)).alloc (.cells #[.string ⟨t.keys[k].toArray⟩] 9)).heap[wc.heap.size + 1]? = some (.cells #[.string ⟨t.keys[k].toArray⟩] 9)) := hidI (h2b _ _ _)
                refine hK.out _ _ (SOc.out.drew HF.out) (fun hHeld2 => ?_)
                clear hK K
                replace hHeld := hHeld2
                clear hHeld2
                try simp only [Act.put, List.setIfInBounds_toArray, List.set_cons_zero, List.set_cons_succ]
                refine wpAnyT_ready (rs := [4]) (by kernel_rfl) (by simp) ?_
                refine AllReadyT.cons (i := 4) (o := _) rfl (fun K hK => ?_) ?_
                · have OEd := hidI OEc.out.drew
                  have NBd : Hid ((((wc.alloc (.cells #[.int .i64 t.l[k].kind, .int .i64 t.l[k].n, .string ⟨t.l[k].s.toArray⟩, .slice a5 t.l[k].keys.length c5, .slice a6 t.l[k].l.length c6] 25)).alloc (.cells #[.string ⟨t.keys[k].toArray⟩] 9)).drew).heap[wc.heap.size + 1]? = some (.cells #[.string ⟨t.keys[k].toArray⟩] 9)) := hidI NBK.out
                  refine step_run (by rfl) (.tmp 43) (.tmp 45) 22 (by rfl) _ _ rfl rfl _ (fun ty => OEd.out.key NBd.out hnk (by exact hBc) ty) (fun v9 W9 hR => ?_)
                  obtain ⟨ho9, hg9, gK, cK, rfl⟩ := hR
                  replace SOc := hidI (hHeld.grown HF.out hg9 (fun g e => (OEd.out.kown g e).1))
                  refine hK.out _ _ SOc.out (fun hHeld2 => ?_)
                  replace NBV := hidI (nb_grown ((by exact NBV.out : (((wc.alloc (.cells #[.int .i64 t.l[k].kind, .int .i64 t.l[k].n, .string ⟨t.l[k].s.toArray⟩, .slice a5 t.l[k].keys.length c5, .slice a6 t.l[k].l.length c6] 25)).alloc (.cells #[.string ⟨t.keys[k].toArray⟩] 9)).drew).heap[wc.heap.size]? = some (.cells #[.int .i64 t.l[k].kind, .int .i64 t.l[k].n, .string ⟨t.l[k].s.toArray⟩, .slice a5 t.l[k].keys.length c5, .slice a6 t.l[k].l.length c6] 25))) hg9 (fun e => by have := LK.out _ e.symm; omega))
                  replace OEc := hidI ho9
                  replace hBc := Nat.le_trans (by exact hBc) hg9.size
                  clear ho9 hg9 OEd NBd
                  clear hK K
                  replace hHeld := hHeld2
                  clear hHeld2
                  try simp only [Act.put, List.setIfInBounds_toArray, List.set_cons_zero, List.set_cons_succ]
                  refine wpAnyT_take (i := 14) (v := ?_) [15, 16, 17] (oi := _) rfl (by kernel_rfl) (by kernel_rfl) (by kernel_rfl) (by kernel_rfl) (fun _ _ _ h => h) (Or.inl ⟨by rfl, ?_⟩) hHeld ?_
                  rotate_left
                  · intro wS hSw
                    go_simp
                    all_goals with_reducible rfl
                  simp only [Act.put, List.setIfInBounds_toArray, List.set_cons_zero, List.set_cons_succ]
                  refine wpAnyT_ready (rs := [13]) (by kernel_rfl) (by simp) ?_
                  refine AllReadyT.cons (i := 13) (o := _) rfl (fun K hK => ?_) ?_
                  · have OEd := hidI OEc.out
                    have HY2 := hidI (HY.out.bel OEd.out.below)
                    have NBd := hidI NBV.out
                    refine step_run (by rfl) (.tmp 48) (.tmp 54) 23 (by rfl) _ _ rfl rfl _ (fun ty => OEd.out.item NBd.out HY2.out hnl (by exact hBc) ty) (fun v9 W9 hR => ?_)
                    obtain ⟨ho9, hg9, gV, cV, rfl⟩ := hR
                    replace SOc := hidI (hHeld.grown HF.out hg9 (fun g e => (OEd.out.lown g e).1))
                    refine hK.out _ _ SOc.out (fun hHeld2 => ?_)
                    replace OEc := hidI ho9
                    replace hBc := Nat.le_trans (by exact hBc) hg9.size
                    clear ho9 hg9 OEd NBd
                    clear hK K
                    replace hHeld := hHeld2
                    clear hHeld2
                    try simp only [Act.put, List.setIfInBounds_toArray, List.set_cons_zero, List.set_cons_succ]
                    obtain ⟨o0, o1, o2, o3, o4, f0, f1, f2, f3, f4⟩ := hHeld.1.c
                    have HE := hidI hHeld
                    clear hHeld
                    refine wpAnyT_last (i := 15) (o := _) (by kernel_rfl) (by rfl) rfl (fun K hK => ?_)
                    go_simp
                    refine hK.out _ _ ?_
                    clear hK K
                    try simp only [Act.put, List.setIfInBounds_toArray, List.set_cons_zero, List.set_cons_succ]
                    refine wpAnyT_last (i := 16) (o := _) (by kernel_rfl) (by rfl) rfl (fun K hK => ?_)
                    go_simp
                    refine hK.out _ _ ?_
                    clear hK K
                    try simp only [Act.put, List.setIfInBounds_toArray, List.set_cons_zero, List.set_cons_succ]
                    refine wpAnyT_last (i := 17) (o := _) (by kernel_rfl) (by rfl) rfl (fun K hK => ?_)
                    go_simp
                    refine hK.out _ _ ?_
                    clear hK K
                    try simp only [Act.put, List.setIfInBounds_toArray, List.set_cons_zero, List.set_cons_succ]
                    refine wpAnyT_done (by kernel_rfl) ?_ _
                    go_wp2_with fail
                    go_roundg (t.keys.length - (k + 1))
                    case measure => rw [GK.out]; omega
                    case rel => exact ⟨k + 1, b, hlt, rfl, by go_num, rfl, wm_item hlt hlt' HNE.out HBL.out HPS.out HE.out (by have h9 := OEc.out; simp only [List.length_map] at h9; exact h9)⟩
                  exact AllReadyT.nil
                exact AllReadyT.nil
              exact AllReadyT.nil
            exact AllReadyT.nil
      | false =>
        cases hb : Op.bytesLess t.keys[k] key with
        | true =>
          have HB := hidI hb
          go_upto_if 26 with fail
          go_cut [8] from 16 to 58 (fun p wc => ∃ b : Bool, p = .bool b ∧ WmI w ok d t x key (some ⟨kb, ko, none⟩) a2 a3 a4 c1 c2 c3 c4 b k wc ∧ (b = false → Op.bytesLess (t.keys[k]'hlt) key = true))
          case first =>
            go_wp2_with fail
            go_meet
            case rel => exact ⟨false, rfl, II.out, fun _ => HB.out⟩
          case rest =>
            obtain ⟨b, rfl, hI, hbl⟩ := hcut
            have II := hidI hI
            have HBL := hidI hbl
            clear hI hbl
            by_cases he : t.keys[k] = key
            · have e3 : (t.keys[k] == key) = true := by simp [he]
              have HN := hidI (wm_less hlt hlt' he HBL.out II.out)
              clear he
              go_wp2_with fail
              go_roundg (t.keys.length - (k + 1))
              case measure => rw [GK.out]; omega
              case rel => exact ⟨k + 1, b, hlt, rfl, by go_num, rfl, HN.out⟩
            · have e3 : (t.keys[k] == key) = false := by simp [he]
              have HNE := hidI he
              obtain ⟨xb, xo, rfl, j3, j4, a5, c5, a6, c6, g0, g1, g2, g3, g4, g5⟩ := vals_at VV.out.1 hlt'
              unfold maxLen at j4
              have G0 := hidI g0
              have G1 := hidI g1
              have G2 := hidI g2
              have G3 := hidI g3
              have G4 := hidI g4
              have HY := hidI g5.below
              obtain ⟨ps, ⟨kv, lv, i1, i2, i4⟩, i3⟩ := II.out
              have HPS := hidI i3
              have hpl : ps.length ≤ 100001 := by
                have h0 := congrArg List.length i3
                have h1 := wm_len (key := key) (x := x) (t.keys.zip t.l) false
                simp at h0 h1
                omega
              have hnk : (ps.map Prod.fst).length ≤ 1000000 := by rw [List.length_map]; omega
              have hnl : (ps.map Prod.snd).length ≤ 1000000 := by rw [List.length_map]; omega
              have OEc := hidI i2
              have hBc : w.heap.size + 3 + 1 ≤ wc.heap.size := i4
              have SOc := hidI i1
              have LK : Hid (∀ g, kv.ownBlock = some g → g < wc.heap.size) := hidI (fun g e => (i2.kown g e).2)
              clear he g0 g1 g2 g3 g4 g5 i1 i2 i3 i4 hpl
              go_upto_region 10 with fail
              refine wp_region_T (SO w 3 (FM w t x (some ⟨kb, ko, none⟩) (some ⟨xb, xo, none⟩) a3 a4 c1 c2 c3 c4) kv lv) [15] (by kernel_rfl) (SOc.out.drew HF.out) (fun hHeld => ?_)
              refine wpAnyT_take (i := 0) (v := ?_) [1, 4, 13, 14, 15, 16, 17] (oi := _) rfl (by kernel_rfl) (by kernel_rfl) (by kernel_rfl) (by kernel_rfl) (fun _ _ _ h => h) (Or.inl ⟨by rfl, ?_⟩) hHeld ?_
              rotate_left
              · intro wS hSw
                go_simp
                all_goals with_reducible rfl
              simp only [Act.put, List.setIfInBounds_toArray, List.set_cons_zero, List.set_cons_succ]
              refine wpAnyT_take (i := 1) (v := ?_) [4, 13, 14, 15, 16, 17] (oi := _) rfl (by kernel_rfl) (by kernel_rfl) (by kernel_rfl) (by kernel_rfl) (fun _ _ _ h => h) (Or.inl ⟨by rfl, ?_⟩) hHeld ?_
              rotate_left
              · intro wS hSw
                obtain ⟨s1, ⟨s2, s3, s5⟩, s4⟩ := hSw
                obtain ⟨x0, x1, x2, x3, x4, -⟩ := s1.c
                obtain ⟨y0, y1, y2, y3, y4, -⟩ := s2.c
                obtain ⟨z0, z1, z2, z3, z4, -⟩ := s3.c
                have e0 := cell_bel s4 G0.out
                have e1 := cell_bel s4 G1.out
                have e2 := cell_bel s4 G2.out
                have e3 := cell_bel s4 G3.out
                have e4 := cell_bel s4 G4.out
                go_simp
                all_goals with_reducible rfl
              simp only [Act.put, List.setIfInBounds_toArray, List.set_cons_zero, List.set_cons_succ]
              refine wpAnyT_take (i := 2) (v := ?_) [3, 4, 13, 14, 15, 16, 17] (oi := _) rfl (by kernel_rfl) (by kernel_rfl) (by kernel_rfl) (by kernel_rfl) (fun _ _ _ h => h) (Or.inl ⟨by rfl, ?_⟩) hHeld ?_
              rotate_left
              · intro wS hSw
                go_simp
                all_goals with_reducible rfl
              simp only [Act.put, List.setIfInBounds_toArray, List.set_cons_zero, List.set_cons_succ]
              refine wpAnyT_take (i := 5) (v := ?_) [6, 13, 14, 15, 16, 17] (oi := _) rfl (by kernel_rfl) (by kernel_rfl) (by kernel_rfl) (by kernel_rfl) (fun _ _ _ h => h) (Or.inl ⟨by rfl, ?_⟩) hHeld ?_
              rotate_left
              · intro wS hSw
                go_simp
                all_goals with_reducible rfl
              simp only [Act.put, List.setIfInBounds_toArray, List.set_cons_zero, List.set_cons_succ]
              refine wpAnyT_take (i := 6) (v := ?_) [13, 14, 15, 16, 17] (oi := _) rfl (by kernel_rfl) (by kernel_rfl) (by kernel_rfl) (by kernel_rfl) (fun _ _ _ h => h) (Or.inl ⟨by rfl, ?_⟩) hHeld ?_
              rotate_left
              · intro wS hSw
                obtain ⟨s1, ⟨s2, s3, s5⟩, s4⟩ := hSw
                obtain ⟨x0, x1, x2, x3, x4, -⟩ := s1.c
                obtain ⟨y0, y1, y2, y3, y4, -⟩ := s2.c
                obtain ⟨z0, z1, z2, z3, z4, -⟩ := s3.c
                have e0 := cell_bel s4 G0.out
                have e1 := cell_bel s4 G1.out
                have e2 := cell_bel s4 G2.out
                have e3 := cell_bel s4 G3.out
                have e4 := cell_bel s4 G4.out
                go_simp
                all_goals with_reducible rfl
              simp only [Act.put, List.setIfInBounds_toArray, List.set_cons_zero, List.set_cons_succ]
              refine wpAnyT_take (i := 7) (v := ?_) [8, 10, 11, 12, 13, 15, 16, 17] (oi := _) rfl (by kernel_rfl) (by kernel_rfl) (by kernel_rfl) (by kernel_rfl) (fun _ _ _ h => h) (Or.inl ⟨by rfl, ?_⟩) hHeld ?_
              rotate_left
              · intro wS hSw
                go_simp
                all_goals with_reducible rfl
              simp only [Act.put, List.setIfInBounds_toArray, List.set_cons_zero, List.set_cons_succ]
              refine wpAnyT_take (i := 8) (v := ?_) [10, 11, 12, 13, 15, 16, 17] (oi := _) rfl (by kernel_rfl) (by kernel_rfl) (by kernel_rfl) (by kernel_rfl) (fun _ _ _ h => h) (Or.inl ⟨by rfl, ?_⟩) hHeld ?_
              rotate_left
              · intro wS hSw
                obtain ⟨s1, ⟨s2, s3, s5⟩, s4⟩ := hSw
                obtain ⟨x0, x1, x2, x3, x4, -⟩ := s1.c
                obtain ⟨y0, y1, y2, y3, y4, -⟩ := s2.c
                obtain ⟨z0, z1, z2, z3, z4, -⟩ := s3.c
                have e0 := cell_bel s4 G0.out
                have e1 := cell_bel s4 G1.out
                have e2 := cell_bel s4 G2.out
                have e3 := cell_bel s4 G3.out
                have e4 := cell_bel s4 G4.out
                go_simp
                all_goals with_reducible rfl
              simp only [Act.put, List.setIfInBounds_toArray, List.set_cons_zero, List.set_cons_succ]
              refine wpAnyT_take (i := 9) (v := ?_) [10, 11, 12, 13, 15, 16, 17] (oi := _) rfl (by kernel_rfl) (by kernel_rfl) (by kernel_rfl) (by kernel_rfl) (fun _ _ _ h => h) (Or.inl ⟨by rfl, ?_⟩) hHeld ?_
              rotate_left
              · intro wS hSw
                go_simp
                all_goals with_reducible rfl
              simp only [Act.put, List.setIfInBounds_toArray, List.set_cons_zero, List.set_cons_succ]
              refine wpAnyT_take (i := 10) (v := ?_) [11, 12, 13, 15, 16, 17] (oi := _) rfl (by kernel_rfl) (by kernel_rfl) (by kernel_rfl) (by kernel_rfl) (fun _ _ _ h => h) (Or.inl ⟨by rfl, ?_⟩) hHeld ?_
              rotate_left
              · intro wS hSw
                go_simp
                all_goals with_reducible rfl
              simp only [Act.put, List.setIfInBounds_toArray, List.set_cons_zero, List.set_cons_succ]
              refine wpAnyT_take (i := 11) (v := ?_) [12, 13, 15, 16, 17] (oi := _) rfl (by kernel_rfl) (by kernel_rfl) (by kernel_rfl) (by kernel_rfl) (fun _ _ _ h => h) (Or.inl ⟨by rfl, ?_⟩) hHeld ?_
              rotate_left
              · intro wS hSw
                obtain ⟨s1, ⟨s2, s3, s5⟩, s4⟩ := hSw
                obtain ⟨x0, x1, x2, x3, x4, -⟩ := s1.c
                obtain ⟨y0, y1, y2, y3, y4, -⟩ := s2.c
                obtain ⟨z0, z1, z2, z3, z4, -⟩ := s3.c
                have e0 := cell_bel s4 G0.out
                have e1 := cell_bel s4 G1.out
                have e2 := cell_bel s4 G2.out
                have e3 := cell_bel s4 G3.out
                have e4 := cell_bel s4 G4.out
                go_simp
                all_goals with_reducible rfl
              simp only [Act.put, List.setIfInBounds_toArray, List.set_cons_zero, List.set_cons_succ]
              refine wpAnyT_ready (rs := [3, 12]) (by kernel_rfl) (by simp) ?_
              refine AllReadyT.cons (i := 3) (o := _) rfl (fun K hK => ?_) ?_
              · go_simp
                replace SOc := hidI (SOc.out.alloc HF.out (.cells #[.string ⟨t.keys[k].toArray⟩] 9))
                replace OEc := hidI (OEc.out.bel (bel_alloc _ (.cells #[.string ⟨t.keys[k].toArray⟩] 9)))
                replace hBc := Nat.le_trans hBc (bel_alloc _ (.cells #[.string ⟨t.keys[k].toArray⟩] 9)).size
                have NBK : Hid ((wc.alloc (.cells #[.string ⟨t.keys[k].toArray⟩] 9)).heap[wc.heap.size]? = some (.cells #[.string ⟨t.keys[k].toArray⟩] 9)) := hidI (heap_alloc_new _ _)
                refine hK.out _ _ (SOc.out.drew HF.out) (fun hHeld2 => ?_)
                clear hK K
                replace hHeld := hHeld2
                clear hHeld2
                try simp only [Act.put, List.setIfInBounds_toArray, List.set_cons_zero, List.set_cons_succ]
                refine wpAnyT_ready (rs := [4, 12]) (by kernel_rfl) (by simp) ?_
                refine AllReadyT.cons (i := 4) (o := _) rfl (fun K hK => ?_) ?_
                · have OEd := hidI OEc.out.drew
                  have NBd : Hid (((wc.alloc (.cells #[.string ⟨t.keys[k].toArray⟩] 9)).drew).heap[wc.heap.size]? = some (.cells #[.string ⟨t.keys[k].toArray⟩] 9)) := hidI NBK.out
                  refine step_run (by rfl) (.tmp 43) (.tmp 45) 22 (by rfl) _ _ rfl rfl _ (fun ty => OEd.out.key NBd.out hnk (by exact hBc) ty) (fun v9 W9 hR => ?_)
                  obtain ⟨ho9, hg9, gK, cK, rfl⟩ := hR
                  replace SOc := hidI (hHeld.grown HF.out hg9 (fun g e => (OEd.out.kown g e).1))
                  refine hK.out _ _ SOc.out (fun hHeld2 => ?_)
                  replace OEc := hidI ho9
                  replace hBc := Nat.le_trans (by exact hBc) hg9.size
                  clear ho9 hg9 OEd NBd
                  clear hK K
                  replace hHeld := hHeld2
                  clear hHeld2
                  try simp only [Act.put, List.setIfInBounds_toArray, List.set_cons_zero, List.set_cons_succ]
                  refine wpAnyT_take (i := 14) (v := ?_) [15, 16, 17] (oi := _) rfl (by kernel_rfl) (by kernel_rfl) (by kernel_rfl) (by kernel_rfl) (fun _ _ _ h => h) (Or.inl ⟨by rfl, ?_⟩) hHeld ?_
                  rotate_left
                  · intro wS hSw
                    go_simp
                    all_goals with_reducible rfl
                  simp only [Act.put, List.setIfInBounds_toArray, List.set_cons_zero, List.set_cons_succ]
                  refine wpAnyT_ready (rs := [12]) (by kernel_rfl) (by simp) ?_
                  refine AllReadyT.cons (i := 12) (o := _) rfl (fun K hK => ?_) ?_
                  · go_simp
                    replace SOc := hidI (SOc.out.alloc HF.out (.cells #[.int .i64 t.l[k].kind, .int .i64 t.l[k].n, .string ⟨t.l[k].s.toArray⟩, .slice a5 t.l[k].keys.length c5, .slice a6 t.l[k].l.length c6] 25))
                    replace OEc := hidI (OEc.out.bel (bel_alloc _ (.cells #[.int .i64 t.l[k].kind, .int .i64 t.l[k].n, .string ⟨t.l[k].s.toArray⟩, .slice a5 t.l[k].keys.length c5, .slice a6 t.l[k].l.length c6] 25)))
                    replace hBc := Nat.le_trans hBc (bel_alloc _ (.cells #[.int .i64 t.l[k].kind, .int .i64 t.l[k].n, .string ⟨t.l[k].s.toArray⟩, .slice a5 t.l[k].keys.length c5, .slice a6 t.l[k].l.length c6] 25)).size
                    have NBV : Hid ((W9.alloc (.cells #[.int .i64 t.l[k].kind, .int .i64 t.l[k].n, .string ⟨t.l[k].s.toArray⟩, .slice a5 t.l[k].keys.length c5, .slice a6 t.l[k].l.length c6] 25)).heap[W9.heap.size]? = some (.cells #[.int .i64 t.l[k].kind, .int .i64 t.l[k].n, .string ⟨t.l[k].s.toArray⟩, .slice a5 t.l[k].keys.length c5, .slice a6 t.l[k].l.length c6] 25)) := hidI (heap_alloc_new _ _)
                    refine hK.out _ _ (SOc.out) (fun hHeld2 => ?_)
                    clear hK K
                    replace hHeld := hHeld2
                    clear hHeld2
                    try simp only [Act.put, List.setIfInBounds_toArray, List.set_cons_zero, List.set_cons_succ]
                    refine wpAnyT_ready (rs := [13]) (by kernel_rfl) (by simp) ?_
                    refine AllReadyT.cons (i := 13) (o := _) rfl (fun K hK => ?_) ?_
                    · have OEd := hidI OEc.out
                      have HY2 := hidI (HY.out.bel OEd.out.below)
                      have NBd := hidI NBV.out
                      refine step_run (by rfl) (.tmp 48) (.tmp 54) 23 (by rfl) _ _ rfl rfl _ (fun ty => OEd.out.item NBd.out HY2.out hnl (by exact hBc) ty) (fun v9 W9 hR => ?_)
                      obtain ⟨ho9, hg9, gV, cV, rfl⟩ := hR
                      replace SOc := hidI (hHeld.grown HF.out hg9 (fun g e => (OEd.out.lown g e).1))
                      refine hK.out _ _ SOc.out (fun hHeld2 => ?_)
                      replace OEc := hidI ho9
                      replace hBc := Nat.le_trans (by exact hBc) hg9.size
                      clear ho9 hg9 OEd NBd
                      clear hK K
                      replace hHeld := hHeld2
                      clear hHeld2
                      try simp only [Act.put, List.setIfInBounds_toArray, List.set_cons_zero, List.set_cons_succ]
                      obtain ⟨o0, o1, o2, o3, o4, f0, f1, f2, f3, f4⟩ := hHeld.1.c
                      have HE := hidI hHeld
                      clear hHeld
                      refine wpAnyT_last (i := 15) (o := _) (by kernel_rfl) (by rfl) rfl (fun K hK => ?_)
                      go_simp
                      refine hK.out _ _ ?_
                      clear hK K
                      try simp only [Act.put, List.setIfInBounds_toArray, List.set_cons_zero, List.set_cons_succ]
                      refine wpAnyT_last (i := 16) (o := _) (by kernel_rfl) (by rfl) rfl (fun K hK => ?_)
                      go_simp
                      refine hK.out _ _ ?_
                      clear hK K
                      try simp only [Act.put, List.setIfInBounds_toArray, List.set_cons_zero, List.set_cons_succ]
                      refine wpAnyT_last (i := 17) (o := _) (by kernel_rfl) (by rfl) rfl (fun K hK => ?_)
                      go_simp
                      refine hK.out _ _ ?_
                      clear hK K
                      try simp only [Act.put, List.setIfInBounds_toArray, List.set_cons_zero, List.set_cons_succ]
                      refine wpAnyT_done (by kernel_rfl) ?_ _
                      go_wp2_with fail
                      go_roundg (t.keys.length - (k + 1))
                      case measure => rw [GK.out]; omega
                      case rel => exact ⟨k + 1, b, hlt, rfl, by go_num, rfl, wm_item hlt hlt' HNE.out HBL.out HPS.out HE.out (by have h9 := OEc.out; simp only [List.length_map] at h9; exact h9)⟩
                    exact AllReadyT.nil
                  exact AllReadyT.nil
                refine AllReadyT.cons (i := 12) (o := _) rfl (fun K hK => ?_) ?_
                · go_simp
                  replace SOc := hidI (SOc.out.alloc HF.out (.cells #[.int .i64 t.l[k].kind, .int .i64 t.l[k].n, .string ⟨t.l[k].s.toArray⟩, .slice a5 t.l[k].keys.length c5, .slice a6 t.l[k].l.length c6] 25))
                  replace OEc := hidI (OEc.out.bel (bel_alloc _ (.cells #[.int .i64 t.l[k].kind, .int .i64 t.l[k].n, .string ⟨t.l[k].s.toArray⟩, .slice a5 t.l[k].keys.length c5, .slice a6 t.l[k].l.length c6] 25)))
                  replace hBc := Nat.le_trans hBc (bel_alloc _ (.cells #[.int .i64 t.l[k].kind, .int .i64 t.l[k].n, .string ⟨t.l[k].s.toArray⟩, .slice a5 t.l[k].keys.length c5, .slice a6 t.l[k].l.length c6] 25)).size
                  clear NBK
                  have NBK : Hid (((wc.alloc (.cells #[.string ⟨t.keys[k].toArray⟩] 9)).alloc (.cells #[.int .i64 t.l[k].kind, .int .i64 t.l[k].n, .string ⟨t.l[k].s.toArray⟩, .slice a5 t.l[k].keys.length c5, .slice a6 t.l[k].l.length c6] 25)).heap[wc.heap.size]? = some (.cells #[.string ⟨t.keys[k].toArray⟩] 9)) := hidI (h2a _ _ _)
                  have NBV : Hid (((wc.alloc (.cells #[.string ⟨t.keys[k].toArray⟩] 9)).alloc (.cells #[.int .i64 t.l[k].kind, .int .i64 t.l[k].n, .string ⟨t.l[k].s.toArray⟩, .slice a5 t.l[k].keys.length c5, .slice a6 t.l[k].l.length c6] 25)).heap[wc.heap.size + 1]? = some (.cells #[.int .i64 t.l[k].kind, .int .i64 t.l[k].n, .string ⟨t.l[k].s.toArray⟩, .slice a5 t.l[k].keys.length c5, .slice a6 t.l[k].l.length c6] 25)) := hidI (h2b _ _ _)
                  refine hK.out _ _ (SOc.out.drew HF.out) (fun hHeld2 => ?_)
                  clear hK K
                  replace hHeld := hHeld2
                  clear hHeld2
                  try simp only [Act.put, List.setIfInBounds_toArray, List.set_cons_zero, List.set_cons_succ]
                  refine wpAnyT_ready (rs := [4]) (by kernel_rfl) (by simp) ?_
                  refine AllReadyT.cons (i := 4) (o := _) rfl (fun K hK => ?_) ?_
                  · have OEd := hidI OEc.out.drew
                    have NBd : Hid ((((wc.alloc (.cells #[.string ⟨t.keys[k].toArray⟩] 9)).alloc (.cells #[.int .i64 t.l[k].kind, .int .i64 t.l[k].n, .string ⟨t.l[k].s.toArray⟩, .slice a5 t.l[k].keys.length c5, .slice a6 t.l[k].l.length c6] 25)).drew).heap[wc.heap.size]? = some (.cells #[.string ⟨t.keys[k].toArray⟩] 9)) := hidI NBK.out
                    refine step_run (by rfl) (.tmp 43) (.tmp 45) 22 (by rfl) _ _ rfl rfl _ (fun ty => OEd.out.key NBd.out hnk (by exact hBc) ty) (fun v9 W9 hR => ?_)
                    obtain ⟨ho9, hg9, gK, cK, rfl⟩ := hR
                    replace SOc := hidI (hHeld.grown HF.out hg9 (fun g e => (OEd.out.kown g e).1))
                    refine hK.out _ _ SOc.out (fun hHeld2 => ?_)
                    replace NBV := hidI (nb_grown ((by exact NBV.out : (((wc.alloc (.cells #[.string ⟨t.keys[k].toArray⟩] 9)).alloc (.cells #[.int .i64 t.l[k].kind, .int .i64 t.l[k].n, .string ⟨t.l[k].s.toArray⟩, .slice a5 t.l[k].keys.length c5, .slice a6 t.l[k].l.length c6] 25)).drew).heap[wc.heap.size + 1]? = some (.cells #[.int .i64 t.l[k].kind, .int .i64 t.l[k].n, .string ⟨t.l[k].s.toArray⟩, .slice a5 t.l[k].keys.length c5, .slice a6 t.l[k].l.length c6] 25))) hg9 (fun e => by have := LK.out _ e.symm; omega))
                    replace OEc := hidI ho9
                    replace hBc := Nat.le_trans (by exact hBc) hg9.size
                    clear ho9 hg9 OEd NBd
                    clear hK K
                    replace hHeld := hHeld2
                    clear hHeld2
                    try simp only [Act.put, List.setIfInBounds_toArray, List.set_cons_zero, List.set_cons_succ]
                    refine wpAnyT_take (i := 14) (v := ?_) [15, 16, 17] (oi := _) rfl (by kernel_rfl) (by kernel_rfl) (by kernel_rfl) (by kernel_rfl) (fun _ _ _ h => h) (Or.inl ⟨by rfl, ?_⟩) hHeld ?_
                    rotate_left
                    · intro wS hSw
                      go_simp
                      all_goals with_reducible rfl
                    simp only [Act.put, List.setIfInBounds_toArray, List.set_cons_zero, List.set_cons_succ]
                    refine wpAnyT_ready (rs := [13]) (by kernel_rfl) (by simp) ?_
                    refine AllReadyT.cons (i := 13) (o := _) rfl (fun K hK => ?_) ?_
                    · have OEd := hidI OEc.out
                      have HY2 := hidI (HY.out.bel OEd.out.below)
                      have NBd := hidI NBV.out
                      refine step_run (by rfl) (.tmp 48) (.tmp 54) 23 (by rfl) _ _ rfl rfl _ (fun ty => OEd.out.item NBd.out HY2.out hnl (by exact hBc) ty) (fun v9 W9 hR => ?_)
                      obtain ⟨ho9, hg9, gV, cV, rfl⟩ := hR
                      replace SOc := hidI (hHeld.grown HF.out hg9 (fun g e => (OEd.out.lown g e).1))
                      refine hK.out _ _ SOc.out (fun hHeld2 => ?_)
                      replace OEc := hidI ho9
                      replace hBc := Nat.le_trans (by exact hBc) hg9.size
                      clear ho9 hg9 OEd NBd
                      clear hK K
                      replace hHeld := hHeld2
                      clear hHeld2
                      try simp only [Act.put, List.setIfInBounds_toArray, List.set_cons_zero, List.set_cons_succ]
                      obtain ⟨o0, o1, o2, o3, o4, f0, f1, f2, f3, f4⟩ := hHeld.1.c
                      have HE := hidI hHeld
                      clear hHeld
                      refine wpAnyT_last (i := 15) (o := _) (by kernel_rfl) (by rfl) rfl (fun K hK => ?_)
                      go_simp
                      refine hK.out _ _ ?_
                      clear hK K
                      try simp only [Act.put, List.setIfInBounds_toArray, List.set_cons_zero, List.set_cons_succ]
                      refine wpAnyT_last (i := 16) (o := _) (by kernel_rfl) (by rfl) rfl (fun K hK => ?_)
                      go_simp
                      refine hK.out _ _ ?_
                      clear hK K
                      try simp only [Act.put, List.setIfInBounds_toArray, List.set_cons_zero, List.set_cons_succ]
                      refine wpAnyT_last (i := 17) (o := _) (by kernel_rfl) (by rfl) rfl (fun K hK => ?_)
                      go_simp
                      refine hK.out _ _ ?_
                      clear hK K
                      try simp only [Act.put, List.setIfInBounds_toArray, List.set_cons_zero, List.set_cons_succ]
                      refine wpAnyT_done (by kernel_rfl) ?_ _
                      go_wp2_with fail
                      go_roundg (t.keys.length - (k + 1))
                      case measure => rw [GK.out]; omega
                      case rel => exact ⟨k + 1, b, hlt, rfl, by go_num, rfl, wm_item hlt hlt' HNE.out HBL.out HPS.out HE.out (by have h9 := OEc.out; simp only [List.length_map] at h9; exact h9)⟩
                    exact AllReadyT.nil
                  exact AllReadyT.nil
                exact AllReadyT.nil
              refine AllReadyT.cons (i := 12) (o := _) rfl (fun K hK => ?_) ?_
              · go_simp
                replace SOc := hidI (SOc.out.alloc HF.out (.cells #[.int .i64 t.l[k].kind, .int .i64 t.l[k].n, .string ⟨t.l[k].s.toArray⟩, .slice a5 t.l[k].keys.length c5, .slice a6 t.l[k].l.length c6] 25))
                replace OEc := hidI (OEc.out.bel (bel_alloc _ (.cells #[.int .i64 t.l[k].kind, .int .i64 t.l[k].n, .string ⟨t.l[k].s.toArray⟩, .slice a5 t.l[k].keys.length c5, .slice a6 t.l[k].l.length c6] 25)))
                replace hBc := Nat.le_trans hBc (bel_alloc _ (.cells #[.int .i64 t.l[k].kind, .int .i64 t.l[k].n, .string ⟨t.l[k].s.toArray⟩, .slice a5 t.l[k].keys.length c5, .slice a6 t.l[k].l.length c6] 25)).size
                have NBV : Hid ((wc.alloc (.cells #[.int .i64 t.l[k].kind, .int .i64 t.l[k].n, .string ⟨t.l[k].s.toArray⟩, .slice a5 t.l[k].keys.length c5, .slice a6 t.l[k].l.length c6] 25)).heap[wc.heap.size]? = some (.cells #[.int .i64 t.l[k].kind, .int .i64 t.l[k].n, .string ⟨t.l[k].s.toArray⟩, .slice a5 t.l[k].keys.length c5, .slice a6 t.l[k].l.length c6] 25)) := hidI (heap_alloc_new _ _)
                refine hK.out _ _ (SOc.out.drew HF.out) (fun hHeld2 => ?_)
                clear hK K
                replace hHeld := hHeld2
                clear hHeld2
                try simp only [Act.put, List.setIfInBounds_toArray, List.set_cons_zero, List.set_cons_succ]
                refine wpAnyT_ready (rs := [3]) (by kernel_rfl) (by simp) ?_
                refine AllReadyT.cons (i := 3) (o := _) rfl (fun K hK => ?_) ?_
                · go_simp
                  replace SOc := hidI (SOc.out.alloc HF.out (.cells #[.string ⟨t.keys[k].toArray⟩] 9))
                  replace OEc := hidI (OEc.out.bel (bel_alloc _ (.cells #[.string ⟨t.keys[k].toArray⟩] 9)))
                  replace hBc := Nat.le_trans hBc (bel_alloc _ (.cells #[.string ⟨t.keys[k].toArray⟩] 9)).size
                  clear NBV
                  have NBV : Hid (((wc.alloc (.cells #[.int .i64 t.l[k].kind, .int .i64 t.l[k].n, .string ⟨t.l[k].s.toArray⟩, .slice a5 t.l[k].keys.length c5, .slice a6 t.l[k].l.length c6] 25)).alloc (.cells #[.string ⟨t.keys[k].toArray⟩] 9)).heap[wc.heap.size]? = some (.cells #[.int .i64 t.l[k].kind, .int .i64 t.l[k].n, .string ⟨t.l[k].s.toArray⟩, .slice a5 t.l[k].keys.length c5, .slice a6 t.l[k].l.length c6] 25)) := hidI (h2a _ _ _)
                  have NBK : Hid (((wc.alloc (.cells #[.int .i64 t.l[k].kind, .int .i64 t.l[k].n, .string ⟨t.l[k].s.toArray⟩, .slice a5 t.l[k].keys.length c5, .slice a6 t.l[k].l.length c6] 25)).alloc (.cells #[.string ⟨t.keys[k].toArray⟩] 9)).heap[wc.heap.size + 1]? = some (.cells #[.string ⟨t.keys[k].toArray⟩] 9)) := hidI (h2b _ _ _)
                  refine hK.out _ _ (SOc.out.drew HF.out) (fun hHeld2 => ?_)
                  clear hK K
                  replace hHeld := hHeld2
                  clear hHeld2
                  try simp only [Act.put, List.setIfInBounds_toArray, List.set_cons_zero, List.set_cons_succ]
                  refine wpAnyT_ready (rs := [4]) (by kernel_rfl) (by simp) ?_
                  refine AllReadyT.cons (i := 4) (o := _) rfl (fun K hK => ?_) ?_
                  · have OEd := hidI OEc.out.drew
                    have NBd : Hid ((((wc.alloc (.cells #[.int .i64 t.l[k].kind, .int .i64 t.l[k].n, .string ⟨t.l[k].s.toArray⟩, .slice a5 t.l[k].keys.length c5, .slice a6 t.l[k].l.length c6] 25)).alloc (.cells #[.string ⟨t.keys[k].toArray⟩] 9)).drew).heap[wc.heap.size + 1]? = some (.cells #[.string ⟨t.keys[k].toArray⟩] 9)) := hidI NBK.out
                    refine step_run (by rfl) (.tmp 43) (.tmp 45) 22 (by rfl) _ _ rfl rfl _ (fun ty => OEd.out.key NBd.out hnk (by exact hBc) ty) (fun v9 W9 hR => ?_)
                    obtain ⟨ho9, hg9, gK, cK, rfl⟩ := hR
                    replace SOc := hidI (hHeld.grown HF.out hg9 (fun g e => (OEd.out.kown g e).1))
                    refine hK.out _ _ SOc.out (fun hHeld2 => ?_)
                    replace NBV := hidI (nb_grown ((by exact NBV.out : (((wc.alloc (.cells #[.int .i64 t.l[k].kind, .int .i64 t.l[k].n, .string ⟨t.l[k].s.toArray⟩, .slice a5 t.l[k].keys.length c5, .slice a6 t.l[k].l.length c6] 25)).alloc (.cells #[.string ⟨t.keys[k].toArray⟩] 9)).drew).heap[wc.heap.size]? = some (.cells #[.int .i64 t.l[k].kind, .int .i64 t.l[k].n, .string ⟨t.l[k].s.toArray⟩, .slice a5 t.l[k].keys.length c5, .slice a6 t.l[k].l.length c6] 25))) hg9 (fun e => by have := LK.out _ e.symm; omega))
                    replace OEc := hidI ho9
                    replace hBc := Nat.le_trans (by exact hBc) hg9.size
                    clear ho9 hg9 OEd NBd
                    clear hK K
                    replace hHeld := hHeld2
                    clear hHeld2
                    try simp only [Act.put, List.setIfInBounds_toArray, List.set_cons_zero, List.set_cons_succ]
                    refine wpAnyT_take (i := 14) (v := ?_) [15, 16, 17] (oi := _) rfl (by kernel_rfl) (by kernel_rfl) (by kernel_rfl) (by kernel_rfl) (fun _ _ _ h => h) (Or.inl ⟨by rfl, ?_⟩) hHeld ?_
                    rotate_left
                    · intro wS hSw
                      go_simp
                      all_goals with_reducible rfl
                    simp only [Act.put, List.setIfInBounds_toArray, List.set_cons_zero, List.set_cons_succ]
                    refine wpAnyT_ready (rs := [13]) (by kernel_rfl) (by simp) ?_
                    refine AllReadyT.cons (i := 13) (o := _) rfl (fun K hK => ?_) ?_
                    · have OEd := hidI OEc.out
                      have HY2 := hidI (HY.out.bel OEd.out.below)
                      have NBd := hidI NBV.out
                      refine step_run (by rfl) (.tmp 48) (.tmp 54) 23 (by rfl) _ _ rfl rfl _ (fun ty => OEd.out.item NBd.out HY2.out hnl (by exact hBc) ty) (fun v9 W9 hR => ?_)
                      obtain ⟨ho9, hg9, gV, cV, rfl⟩ := hR
                      replace SOc := hidI (hHeld.grown HF.out hg9 (fun g e => (OEd.out.lown g e).1))
                      refine hK.out _ _ SOc.out (fun hHeld2 => ?_)
                      replace OEc := hidI ho9
                      replace hBc := Nat.le_trans (by exact hBc) hg9.size
                      clear ho9 hg9 OEd NBd
                      clear hK K
                      replace hHeld := hHeld2
                      clear hHeld2
                      try simp only [Act.put, List.setIfInBounds_toArray, List.set_cons_zero, List.set_cons_succ]
                      obtain ⟨o0, o1, o2, o3, o4, f0, f1, f2, f3, f4⟩ := hHeld.1.c
                      have HE := hidI hHeld
                      clear hHeld
                      refine wpAnyT_last (i := 15) (o := _) (by kernel_rfl) (by rfl) rfl (fun K hK => ?_)
                      go_simp
                      refine hK.out _ _ ?_
                      clear hK K
                      try simp only [Act.put, List.setIfInBounds_toArray, List.set_cons_zero, List.set_cons_succ]
                      refine wpAnyT_last (i := 16) (o := _) (by kernel_rfl) (by rfl) rfl (fun K hK => ?_)
                      go_simp
                      refine hK.out _ _ ?_
                      clear hK K
                      try simp only [Act.put, List.setIfInBounds_toArray, List.set_cons_zero, List.set_cons_succ]
                      refine wpAnyT_last (i := 17) (o := _) (by kernel_rfl) (by rfl) rfl (fun K hK => ?_)
                      go_simp
                      refine hK.out _ _ ?_
                      clear hK K
                      try simp only [Act.put, List.setIfInBounds_toArray, List.set_cons_zero, List.set_cons_succ]
                      refine wpAnyT_done (by kernel_rfl) ?_ _
                      go_wp2_with fail
                      go_roundg (t.keys.length - (k + 1))
                      case measure => rw [GK.out]; omega
                      case rel => exact ⟨k + 1, b, hlt, rfl, by go_num, rfl, wm_item hlt hlt' HNE.out HBL.out HPS.out HE.out (by have h9 := OEc.out; simp only [List.length_map] at h9; exact h9)⟩
                    exact AllReadyT.nil
                  exact AllReadyT.nil
                exact AllReadyT.nil
              exact AllReadyT.nil
        | false =>
          go_upto_if 26 with fail
          go_cut [8] from 16 to 58 (fun p wc => ∃ b : Bool, p = .bool b ∧ WmI w ok d t x key (some ⟨kb, ko, none⟩) a2 a3 a4 c1 c2 c3 c4 b k wc ∧ (b = false → Op.bytesLess (t.keys[k]'hlt) key = true))
          case first =>
            have HB := hidI hb
            obtain ⟨ps, ⟨kv, lv, i1, i2, i4⟩, i3⟩ := II.out
            have HPS := hidI i3
            have hpl : ps.length ≤ 100001 := by
              have h0 := congrArg List.length i3
              have h1 := wm_len (key := key) (x := x) (t.keys.zip t.l) false
              simp at h0 h1
              omega
            have hnk : (ps.map Prod.fst).length ≤ 1000000 := by rw [List.length_map]; omega
            have hnl : (ps.map Prod.snd).length ≤ 1000000 := by rw [List.length_map]; omega
            have OEc := hidI i2
            have hBc : w.heap.size + 3 + 1 ≤ wr.heap.size := i4
            have SOc := hidI i1
            have LK : Hid (∀ g, kv.ownBlock = some g → g < wr.heap.size) := hidI (fun g e => (i2.kown g e).2)
            have HY := HX
            clear i1 i2 i3 i4 hpl
            go_upto_region 7 with fail
            refine wp_region_T (SO w 3 (FM w t x (some ⟨kb, ko, none⟩) a2 a3 a4 c1 c2 c3 c4) kv lv) [11] (by kernel_rfl) (SOc.out.drew HF.out) (fun hHeld => ?_)
            refine wpAnyT_take (i := 0) (v := ?_) [1, 4, 9, 10, 11, 12, 13] (oi := _) rfl (by kernel_rfl) (by kernel_rfl) (by kernel_rfl) (by kernel_rfl) (fun _ _ _ h => h) (Or.inl ⟨by rfl, ?_⟩) hHeld ?_
            rotate_left
            · intro wS hSw
              go_simp
              all_goals with_reducible rfl
            simp only [Act.put, List.setIfInBounds_toArray, List.set_cons_zero, List.set_cons_succ]
            refine wpAnyT_take (i := 1) (v := ?_) [4, 9, 10, 11, 12, 13] (oi := _) rfl (by kernel_rfl) (by kernel_rfl) (by kernel_rfl) (by kernel_rfl) (fun _ _ _ h => h) (Or.inl ⟨by rfl, ?_⟩) hHeld ?_
            rotate_left
            · intro wS hSw
              obtain ⟨s1, ⟨s2, s3, s5⟩, s4⟩ := hSw
              obtain ⟨x0, x1, x2, x3, x4, -⟩ := s1.c
              obtain ⟨y0, y1, y2, y3, y4, -⟩ := s2.c
              obtain ⟨z0, z1, z2, z3, z4, -⟩ := s3.c
              go_simp
              all_goals with_reducible rfl
            simp only [Act.put, List.setIfInBounds_toArray, List.set_cons_zero, List.set_cons_succ]
            refine wpAnyT_take (i := 2) (v := ?_) [3, 4, 9, 10, 11, 12, 13] (oi := _) rfl (by kernel_rfl) (by kernel_rfl) (by kernel_rfl) (by kernel_rfl) (fun _ _ _ h => h) (Or.inl ⟨by rfl, ?_⟩) hHeld ?_
            rotate_left
            · intro wS hSw
              go_simp
              all_goals with_reducible rfl
            simp only [Act.put, List.setIfInBounds_toArray, List.set_cons_zero, List.set_cons_succ]
            refine wpAnyT_take (i := 5) (v := ?_) [6, 9, 10, 11, 12, 13] (oi := _) rfl (by kernel_rfl) (by kernel_rfl) (by kernel_rfl) (by kernel_rfl) (fun _ _ _ h => h) (Or.inl ⟨by rfl, ?_⟩) hHeld ?_
            rotate_left
            · intro wS hSw
              go_simp
              all_goals with_reducible rfl
            simp only [Act.put, List.setIfInBounds_toArray, List.set_cons_zero, List.set_cons_succ]
            refine wpAnyT_take (i := 6) (v := ?_) [9, 10, 11, 12, 13] (oi := _) rfl (by kernel_rfl) (by kernel_rfl) (by kernel_rfl) (by kernel_rfl) (fun _ _ _ h => h) (Or.inl ⟨by rfl, ?_⟩) hHeld ?_
            rotate_left
            · intro wS hSw
              obtain ⟨s1, ⟨s2, s3, s5⟩, s4⟩ := hSw
              obtain ⟨x0, x1, x2, x3, x4, -⟩ := s1.c
              obtain ⟨y0, y1, y2, y3, y4, -⟩ := s2.c
              obtain ⟨z0, z1, z2, z3, z4, -⟩ := s3.c
              go_simp
              all_goals with_reducible rfl
            simp only [Act.put, List.setIfInBounds_toArray, List.set_cons_zero, List.set_cons_succ]
            refine wpAnyT_take (i := 7) (v := ?_) [8, 9, 11, 12, 13] (oi := _) rfl (by kernel_rfl) (by kernel_rfl) (by kernel_rfl) (by kernel_rfl) (fun _ _ _ h => h) (Or.inl ⟨by rfl, ?_⟩) hHeld ?_
            rotate_left
            · intro wS hSw
              obtain ⟨s1, ⟨s2, s3, s5⟩, s4⟩ := hSw
              obtain ⟨x0, x1, x2, x3, x4, -⟩ := s1.c
              obtain ⟨y0, y1, y2, y3, y4, -⟩ := s2.c
              obtain ⟨z0, z1, z2, z3, z4, -⟩ := s3.c
              go_simp
              all_goals with_reducible rfl
            simp only [Act.put, List.setIfInBounds_toArray, List.set_cons_zero, List.set_cons_succ]
            refine wpAnyT_ready (rs := [3, 8]) (by kernel_rfl) (by simp) ?_
            refine AllReadyT.cons (i := 3) (o := _) rfl (fun K hK => ?_) ?_
            · go_simp
              replace SOc := hidI (SOc.out.alloc HF.out (.cells #[.string ⟨key.toArray⟩] 9))
              replace OEc := hidI (OEc.out.bel (bel_alloc _ (.cells #[.string ⟨key.toArray⟩] 9)))
              replace hBc := Nat.le_trans hBc (bel_alloc _ (.cells #[.string ⟨key.toArray⟩] 9)).size
              have NBK : Hid ((wr.alloc (.cells #[.string ⟨key.toArray⟩] 9)).heap[wr.heap.size]? = some (.cells #[.string ⟨key.toArray⟩] 9)) := hidI (heap_alloc_new _ _)
              refine hK.out _ _ (SOc.out.drew HF.out) (fun hHeld2 => ?_)
              clear hK K
              replace hHeld := hHeld2
              clear hHeld2
              try simp only [Act.put, List.setIfInBounds_toArray, List.set_cons_zero, List.set_cons_succ]
              refine wpAnyT_ready (rs := [4, 8]) (by kernel_rfl) (by simp) ?_
              refine AllReadyT.cons (i := 4) (o := _) rfl (fun K hK => ?_) ?_
              · have OEd := hidI OEc.out.drew
                have NBd : Hid (((wr.alloc (.cells #[.string ⟨key.toArray⟩] 9)).drew).heap[wr.heap.size]? = some (.cells #[.string ⟨key.toArray⟩] 9)) := hidI NBK.out
                refine step_run (by rfl) (.tmp 28) (.tmp 30) 22 (by rfl) _ _ rfl rfl _ (fun ty => OEd.out.key NBd.out hnk (by exact hBc) ty) (fun v9 W9 hR => ?_)
                obtain ⟨ho9, hg9, gK, cK, rfl⟩ := hR
                replace SOc := hidI (hHeld.grown HF.out hg9 (fun g e => (OEd.out.kown g e).1))
                refine hK.out _ _ SOc.out (fun hHeld2 => ?_)
                replace OEc := hidI ho9
                replace hBc := Nat.le_trans (by exact hBc) hg9.size
                clear ho9 hg9 OEd NBd
                clear hK K
                replace hHeld := hHeld2
                clear hHeld2
                try simp only [Act.put, List.setIfInBounds_toArray, List.set_cons_zero, List.set_cons_succ]
                refine wpAnyT_take (i := 10) (v := ?_) [11, 12, 13] (oi := _) rfl (by kernel_rfl) (by kernel_rfl) (by kernel_rfl) (by kernel_rfl) (fun _ _ _ h => h) (Or.inl ⟨by rfl, ?_⟩) hHeld ?_
                rotate_left
                · intro wS hSw
                  go_simp
                  all_goals with_reducible rfl
                simp only [Act.put, List.setIfInBounds_toArray, List.set_cons_zero, List.set_cons_succ]
                refine wpAnyT_ready (rs := [8]) (by kernel_rfl) (by simp) ?_
                refine AllReadyT.cons (i := 8) (o := _) rfl (fun K hK => ?_) ?_
                · go_simp
                  replace SOc := hidI (SOc.out.alloc HF.out (.cells #[.int .i64 x.kind, .int .i64 x.n, .string ⟨x.s.toArray⟩, .slice a3 x.keys.length c3, .slice a4 x.l.length c4] 25))
                  replace OEc := hidI (OEc.out.bel (bel_alloc _ (.cells #[.int .i64 x.kind, .int .i64 x.n, .string ⟨x.s.toArray⟩, .slice a3 x.keys.length c3, .slice a4 x.l.length c4] 25)))
                  replace hBc := Nat.le_trans hBc (bel_alloc _ (.cells #[.int .i64 x.kind, .int .i64 x.n, .string ⟨x.s.toArray⟩, .slice a3 x.keys.length c3, .slice a4 x.l.length c4] 25)).size
                  have NBV : Hid ((W9.alloc (.cells #[.int .i64 x.kind, .int .i64 x.n, .string ⟨x.s.toArray⟩, .slice a3 x.keys.length c3, .slice a4 x.l.length c4] 25)).heap[W9.heap.size]? = some (.cells #[.int .i64 x.kind, .int .i64 x.n, .string ⟨x.s.toArray⟩, .slice a3 x.keys.length c3, .slice a4 x.l.length c4] 25)) := hidI (heap_alloc_new _ _)
                  refine hK.out _ _ (SOc.out) (fun hHeld2 => ?_)
                  clear hK K
                  replace hHeld := hHeld2
                  clear hHeld2
                  try simp only [Act.put, List.setIfInBounds_toArray, List.set_cons_zero, List.set_cons_succ]
                  refine wpAnyT_ready (rs := [9]) (by kernel_rfl) (by simp) ?_
                  refine AllReadyT.cons (i := 9) (o := _) rfl (fun K hK => ?_) ?_
                  · have OEd := hidI OEc.out
                    have HY2 := hidI (HY.out.bel OEd.out.below)
                    have NBd := hidI NBV.out
                    refine step_run (by rfl) (.tmp 33) (.tmp 35) 23 (by rfl) _ _ rfl rfl _ (fun ty => OEd.out.item NBd.out HY2.out hnl (by exact hBc) ty) (fun v9 W9 hR => ?_)
                    obtain ⟨ho9, hg9, gV, cV, rfl⟩ := hR
                    replace SOc := hidI (hHeld.grown HF.out hg9 (fun g e => (OEd.out.lown g e).1))
                    refine hK.out _ _ SOc.out (fun hHeld2 => ?_)
                    replace OEc := hidI ho9
                    replace hBc := Nat.le_trans (by exact hBc) hg9.size
                    clear ho9 hg9 OEd NBd
                    clear hK K
                    replace hHeld := hHeld2
                    clear hHeld2
                    try simp only [Act.put, List.setIfInBounds_toArray, List.set_cons_zero, List.set_cons_succ]
                    obtain ⟨o0, o1, o2, o3, o4, f0, f1, f2, f3, f4⟩ := hHeld.1.c
                    have HE := hidI hHeld
                    clear hHeld
                    refine wpAnyT_last (i := 11) (o := _) (by kernel_rfl) (by rfl) rfl (fun K hK => ?_)
                    go_simp
                    refine hK.out _ _ ?_
                    clear hK K
                    try simp only [Act.put, List.setIfInBounds_toArray, List.set_cons_zero, List.set_cons_succ]
                    refine wpAnyT_last (i := 12) (o := _) (by kernel_rfl) (by rfl) rfl (fun K hK => ?_)
                    go_simp
                    refine hK.out _ _ ?_
                    clear hK K
                    try simp only [Act.put, List.setIfInBounds_toArray, List.set_cons_zero, List.set_cons_succ]
                    refine wpAnyT_last (i := 13) (o := _) (by kernel_rfl) (by rfl) rfl (fun K hK => ?_)
                    go_simp
                    refine hK.out _ _ ?_
                    clear hK K
                    try simp only [Act.put, List.setIfInBounds_toArray, List.set_cons_zero, List.set_cons_succ]
                    refine wpAnyT_done (by kernel_rfl) ?_ _
                    go_wp2_with fail
                    go_meet
                    case rel => exact ⟨true, rfl, wm_push hlt hlt' HB.out HPS.out HE.out (by have h9 := OEc.out; simp only [List.length_map] at h9; exact h9), by simp⟩
                  exact AllReadyT.nil
                exact AllReadyT.nil
              refine AllReadyT.cons (i := 8) (o := _) rfl (fun K hK => ?_) ?_
              · go_simp
                replace SOc := hidI (SOc.out.alloc HF.out (.cells #[.int .i64 x.kind, .int .i64 x.n, .string ⟨x.s.toArray⟩, .slice a3 x.keys.length c3, .slice a4 x.l.length c4] 25))
                replace OEc := hidI (OEc.out.bel (bel_alloc _ (.cells #[.int .i64 x.kind, .int .i64 x.n, .string ⟨x.s.toArray⟩, .slice a3 x.keys.length c3, .slice a4 x.l.length c4] 25)))
                replace hBc := Nat.le_trans hBc (bel_alloc _ (.cells #[.int .i64 x.kind, .int .i64 x.n, .string ⟨x.s.toArray⟩, .slice a3 x.keys.length c3, .slice a4 x.l.length c4] 25)).size
                clear NBK
                have NBK : Hid (((wr.alloc (.cells #[.string ⟨key.toArray⟩] 9)).alloc (.cells #[.int .i64 x.kind, .int .i64 x.n, .string ⟨x.s.toArray⟩, .slice a3 x.keys.length c3, .slice a4 x.l.length c4] 25)).heap[wr.heap.size]? = some (.cells #[.string ⟨key.toArray⟩] 9)) := hidI (h2a _ _ _)
                have NBV : Hid (((wr.alloc (.cells #[.string ⟨key.toArray⟩] 9)).alloc (.cells #[.int .i64 x.kind, .int .i64 x.n, .string ⟨x.s.toArray⟩, .slice a3 x.keys.length c3, .slice a4 x.l.length c4] 25)).heap[wr.heap.size + 1]? = some (.cells #[.int .i64 x.kind, .int .i64 x.n, .string ⟨x.s.toArray⟩, .slice a3 x.keys.length c3, .slice a4 x.l.length c4] 25)) := hidI (h2b _ _ _)
                refine hK.out _ _ (SOc.out.drew HF.out) (fun hHeld2 => ?_)
                clear hK K
                replace hHeld := hHeld2
                clear hHeld2
                try simp only [Act.put, List.setIfInBounds_toArray, List.set_cons_zero, List.set_cons_succ]
                refine wpAnyT_ready (rs := [4]) (by kernel_rfl) (by simp) ?_
                refine AllReadyT.cons (i := 4) (o := _) rfl (fun K hK => ?_) ?_
                · have OEd := hidI OEc.out.drew
                  have NBd : Hid ((((wr.alloc (.cells #[.string ⟨key.toArray⟩] 9)).alloc (.cells #[.int .i64 x.kind, .int .i64 x.n, .string ⟨x.s.toArray⟩, .slice a3 x.keys.length c3, .slice a4 x.l.length c4] 25)).drew).heap[wr.heap.size]? = some (.cells #[.string ⟨key.toArray⟩] 9)) := hidI NBK.out
                  refine step_run (by rfl) (.tmp 28) (.tmp 30) 22 (by rfl) _ _ rfl rfl _ (fun ty => OEd.out.key NBd.out hnk (by exact hBc) ty) (fun v9 W9 hR => ?_)
                  obtain ⟨ho9, hg9, gK, cK, rfl⟩ := hR
                  replace SOc := hidI (hHeld.grown HF.out hg9 (fun g e => (OEd.out.kown g e).1))
                  refine hK.out _ _ SOc.out (fun hHeld2 => ?_)
                  replace NBV := hidI (nb_grown ((by exact NBV.out : (((wr.alloc (.cells #[.string ⟨key.toArray⟩] 9)).alloc (.cells #[.int .i64 x.kind, .int .i64 x.n, .string ⟨x.s.toArray⟩, .slice a3 x.keys.length c3, .slice a4 x.l.length c4] 25)).drew).heap[wr.heap.size + 1]? = some (.cells #[.int .i64 x.kind, .int .i64 x.n, .string ⟨x.s.toArray⟩, .slice a3 x.keys.length c3, .slice a4 x.l.length c4] 25))) hg9 (fun e => by have := LK.out _ e.symm; omega))
                  replace OEc := hidI ho9
                  replace hBc := Nat.le_trans (by exact hBc) hg9.size
                  clear ho9 hg9 OEd NBd
                  clear hK K
                  replace hHeld := hHeld2
                  clear hHeld2
                  try simp only [Act.put, List.setIfInBounds_toArray, List.set_cons_zero, List.set_cons_succ]
                  refine wpAnyT_take (i := 10) (v := ?_) [11, 12, 13] (oi := _) rfl (by kernel_rfl) (by kernel_rfl) (by kernel_rfl) (by kernel_rfl) (fun _ _ _ h => h) (Or.inl ⟨by rfl, ?_⟩) hHeld ?_
                  rotate_left
                  · intro wS hSw
                    go_simp
                    all_goals with_reducible rfl
                  simp only [Act.put, List.setIfInBounds_toArray, List.set_cons_zero, List.set_cons_succ]
                  refine wpAnyT_ready (rs := [9]) (by kernel_rfl) (by simp) ?_
                  refine AllReadyT.cons (i := 9) (o := _) rfl (fun K hK => ?_) ?_
                  · have OEd := hidI OEc.out
                    have HY2 := hidI (HY.out.bel OEd.out.below)
                    have NBd := hidI NBV.out
                    refine step_run (by rfl) (.tmp 33) (.tmp 35) 23 (by rfl) _ _ rfl rfl _ (fun ty => OEd.out.item NBd.out HY2.out hnl (by exact hBc) ty) (fun v9 W9 hR => ?_)
                    obtain ⟨ho9, hg9, gV, cV, rfl⟩ := hR
                    replace SOc := hidI (hHeld.grown HF.out hg9 (fun g e => (OEd.out.lown g e).1))
                    refine hK.out _ _ SOc.out (fun hHeld2 => ?_)
                    replace OEc := hidI ho9
                    replace hBc := Nat.le_trans (by exact hBc) hg9.size
                    clear ho9 hg9 OEd NBd
                    clear hK K
                    replace hHeld := hHeld2
                    clear hHeld2
                    try simp only [Act.put, List.setIfInBounds_toArray, List.set_cons_zero, List.set_cons_succ]
                    obtain ⟨o0, o1, o2, o3, o4, f0, f1, f2, f3, f4⟩ := hHeld.1.c
                    have HE := hidI hHeld
                    clear hHeld
                    refine wpAnyT_last (i := 11) (o := _) (by kernel_rfl) (by rfl) rfl (fun K hK => ?_)
                    go_simp
                    refine hK.out _ _ ?_
                    clear hK K
                    try simp only [Act.put, List.setIfInBounds_toArray, List.set_cons_zero, List.set_cons_succ]
                    refine wpAnyT_last (i := 12) (o := _) (by kernel_rfl) (by rfl) rfl (fun K hK => ?_)
                    go_simp
                    refine hK.out _ _ ?_
                    clear hK K
                    try simp only [Act.put, List.setIfInBounds_toArray, List.set_cons_zero, List.set_cons_succ]
                    refine wpAnyT_last (i := 13) (o := _) (by kernel_rfl) (by rfl) rfl (fun K hK => ?_)
                    go_simp
                    refine hK.out _ _ ?_
                    clear hK K
                    try simp only [Act.put, List.setIfInBounds_toArray, List.set_cons_zero, List.set_cons_succ]
                    refine wpAnyT_done (by kernel_rfl) ?_ _
                    go_wp2_with fail
                    go_meet
                    case rel => exact ⟨true, rfl, wm_push hlt hlt' HB.out HPS.out HE.out (by have h9 := OEc.out; simp only [List.length_map] at h9; exact h9), by simp⟩
                  exact AllReadyT.nil
                exact AllReadyT.nil
              exact AllReadyT.nil
            refine AllReadyT.cons (i := 8) (o := _) rfl (fun K hK => ?_) ?_
            · go_simp
              replace SOc := hidI (SOc.out.alloc HF.out (.cells #[.int .i64 x.kind, .int .i64 x.n, .string ⟨x.s.toArray⟩, .slice a3 x.keys.length c3, .slice a4 x.l.length c4] 25))
              replace OEc := hidI (OEc.out.bel (bel_alloc _ (.cells #[.int .i64 x.kind, .int .i64 x.n, .string ⟨x.s.toArray⟩, .slice a3 x.keys.length c3, .slice a4 x.l.length c4] 25)))
              replace hBc := Nat.le_trans hBc (bel_alloc _ (.cells #[.int .i64 x.kind, .int .i64 x.n, .string ⟨x.s.toArray⟩, .slice a3 x.keys.length c3, .slice a4 x.l.length c4] 25)).size
              have NBV : Hid ((wr.alloc (.cells #[.int .i64 x.kind, .int .i64 x.n, .string ⟨x.s.toArray⟩, .slice a3 x.keys.length c3, .slice a4 x.l.length c4] 25)).heap[wr.heap.size]? = some (.cells #[.int .i64 x.kind, .int .i64 x.n, .string ⟨x.s.toArray⟩, .slice a3 x.keys.length c3, .slice a4 x.l.length c4] 25)) := hidI (heap_alloc_new _ _)
              refine hK.out _ _ (SOc.out.drew HF.out) (fun hHeld2 => ?_)
              clear hK K
              replace hHeld := hHeld2
              clear hHeld2
              try simp only [Act.put, List.setIfInBounds_toArray, List.set_cons_zero, List.set_cons_succ]
              refine wpAnyT_ready (rs := [3]) (by kernel_rfl) (by simp) ?_
              refine AllReadyT.cons (i := 3) (o := _) rfl (fun K hK => ?_) ?_
              · go_simp
                replace SOc := hidI (SOc.out.alloc HF.out (.cells #[.string ⟨key.toArray⟩] 9))
                replace OEc := hidI (OEc.out.bel (bel_alloc _ (.cells #[.string ⟨key.toArray⟩] 9)))
                replace hBc := Nat.le_trans hBc (bel_alloc _ (.cells #[.string ⟨key.toArray⟩] 9)).size
                clear NBV
                have NBV : Hid (((wr.alloc (.cells #[.int .i64 x.kind, .int .i64 x.n, .string ⟨x.s.toArray⟩, .slice a3 x.keys.length c3, .slice a4 x.l.length c4] 25)).alloc (.cells #[.string ⟨key.toArray⟩] 9)).heap[wr.heap.size]? = some (.cells #[.int .i64 x.kind, .int .i64 x.n, .string ⟨x.s.toArray⟩, .slice a3 x.keys.length c3, .slice a4 x.l.length c4] 25)) := hidI (h2a _ _ _)
                have NBK : Hid (((wr.alloc (.cells #[.int .i64 x.kind, .int .i64 x.n, .string ⟨x.s.toArray⟩, .slice a3 x.keys.length c3, .slice a4 x.l.length c4] 25)).alloc (.cells #[.string ⟨key.toArray⟩] 9)).heap[wr.heap.size + 1]? = some (.cells #[.string ⟨key.toArray⟩] 9)) := hidI (h2b _ _ _)
                refine hK.out _ _ (SOc.out.drew HF.out) (fun hHeld2 => ?_)
                clear hK K
                replace hHeld := hHeld2
                clear hHeld2
                try simp only [Act.put, List.setIfInBounds_toArray, List.set_cons_zero, List.set_cons_succ]
                refine wpAnyT_ready (rs := [4]) (by kernel_rfl) (by simp) ?_
                refine AllReadyT.cons (i := 4) (o := _) rfl (fun K hK => ?_) ?_
                · have OEd := hidI OEc.out.drew
                  have NBd : Hid ((((wr.alloc (.cells #[.int .i64 x.kind, .int .i64 x.n, .string ⟨x.s.toArray⟩, .slice a3 x.keys.length c3, .slice a4 x.l.length c4] 25)).alloc (.cells #[.string ⟨key.toArray⟩] 9)).drew).heap[wr.heap.size + 1]? = some (.cells #[.string ⟨key.toArray⟩] 9)) := hidI NBK.out
                  refine step_run (by rfl) (.tmp 28) (.tmp 30) 22 (by rfl) _ _ rfl rfl _ (fun ty => OEd.out.key NBd.out hnk (by exact hBc) ty) (fun v9 W9 hR => ?_)
                  obtain ⟨ho9, hg9, gK, cK, rfl⟩ := hR
                  replace SOc := hidI (hHeld.grown HF.out hg9 (fun g e => (OEd.out.kown g e).1))
                  refine hK.out _ _ SOc.out (fun hHeld2 => ?_)
                  replace NBV := hidI (nb_grown ((by exact NBV.out : (((wr.alloc (.cells #[.int .i64 x.kind, .int .i64 x.n, .string ⟨x.s.toArray⟩, .slice a3 x.keys.length c3, .slice a4 x.l.length c4] 25)).alloc (.cells #[.string ⟨key.toArray⟩] 9)).drew).heap[wr.heap.size]? = some (.cells #[.int .i64 x.kind, .int .i64 x.n, .string ⟨x.s.toArray⟩, .slice a3 x.keys.length c3, .slice a4 x.l.length c4] 25))) hg9 (fun e => by have := LK.out _ e.symm; omega))
                  replace OEc := hidI ho9
                  replace hBc := Nat.le_trans (by exact hBc) hg9.size
                  clear ho9 hg9 OEd NBd
                  clear hK K
                  replace hHeld := hHeld2
                  clear hHeld2
                  try simp only [Act.put, List.setIfInBounds_toArray, List.set_cons_zero, List.set_cons_succ]
                  refine wpAnyT_take (i := 10) (v := ?_) [11, 12, 13] (oi := _) rfl (by kernel_rfl) (by kernel_rfl) (by kernel_rfl) (by kernel_rfl) (fun _ _ _ h => h) (Or.inl ⟨by rfl, ?_⟩) hHeld ?_
                  rotate_left
                  · intro wS hSw
                    go_simp
                    all_goals with_reducible rfl
                  simp only [Act.put, List.setIfInBounds_toArray, List.set_cons_zero, List.set_cons_succ]
                  refine wpAnyT_ready (rs := [9]) (by kernel_rfl) (by simp) ?_
                  refine AllReadyT.cons (i := 9) (o := _) rfl (fun K hK => ?_) ?_
                  · have OEd := hidI OEc.out
                    have HY2 := hidI (HY.out.bel OEd.out.below)
                    have NBd := hidI NBV.out
                    refine step_run (by rfl) (.tmp 33) (.tmp 35) 23 (by rfl) _ _ rfl rfl _ (fun ty => OEd.out.item NBd.out HY2.out hnl (by exact hBc) ty) (fun v9 W9 hR => ?_)
                    obtain ⟨ho9, hg9, gV, cV, rfl⟩ := hR
                    replace SOc := hidI (hHeld.grown HF.out hg9 (fun g e => (OEd.out.lown g e).1))
                    refine hK.out _ _ SOc.out (fun hHeld2 => ?_)
                    replace OEc := hidI ho9
                    replace hBc := Nat.le_trans (by exact hBc) hg9.size
                    clear ho9 hg9 OEd NBd
                    clear hK K
                    replace hHeld := hHeld2
                    clear hHeld2
                    try simp only [Act.put, List.setIfInBounds_toArray, List.set_cons_zero, List.set_cons_succ]
                    obtain ⟨o0, o1, o2, o3, o4, f0, f1, f2, f3, f4⟩ := hHeld.1.c
                    have HE := hidI hHeld
                    clear hHeld
                    refine wpAnyT_last (i := 11) (o := _) (by kernel_rfl) (by rfl) rfl (fun K hK => ?_)
                    go_simp
                    refine hK.out _ _ ?_
                    clear hK K
                    try simp only [Act.put, List.setIfInBounds_toArray, List.set_cons_zero, List.set_cons_succ]
                    refine wpAnyT_last (i := 12) (o := _) (by kernel_rfl) (by rfl) rfl (fun K hK => ?_)
                    go_simp
                    refine hK.out _ _ ?_
                    clear hK K
                    try simp only [Act.put, List.setIfInBounds_toArray, List.set_cons_zero, List.set_cons_succ]
                    refine wpAnyT_last (i := 13) (o := _) (by kernel_rfl) (by rfl) rfl (fun K hK => ?_)
                    go_simp
                    refine hK.out _ _ ?_
                    clear hK K
                    try simp only [Act.put, List.setIfInBounds_toArray, List.set_cons_zero, List.set_cons_succ]
                    refine wpAnyT_done (by kernel_rfl) ?_ _
                    go_wp2_with fail
                    go_meet
                    case rel => exact ⟨true, rfl, wm_push hlt hlt' HB.out HPS.out HE.out (by have h9 := OEc.out; simp only [List.length_map] at h9; exact h9), by simp⟩
                  exact AllReadyT.nil
                exact AllReadyT.nil
              exact AllReadyT.nil
            exact AllReadyT.nil
          case rest =>
            obtain ⟨b, rfl, hI, hbl⟩ := hcut
            have II := hidI hI
            have HBL := hidI hbl
            clear hI hbl
            by_cases he : t.keys[k] = key
            · have e3 : (t.keys[k] == key) = true := by simp [he]
              have HN := hidI (wm_less hlt hlt' he HBL.out II.out)
              clear he
              go_wp2_with fail
              go_roundg (t.keys.length - (k + 1))
              case measure => rw [GK.out]; omega
              case rel => exact ⟨k + 1, b, hlt, rfl, by go_num, rfl, HN.out⟩
            · have e3 : (t.keys[k] == key) = false := by simp [he]
              have HNE := hidI he
              obtain ⟨xb, xo, rfl, j3, j4, a5, c5, a6, c6, g0, g1, g2, g3, g4, g5⟩ := vals_at VV.out.1 hlt'
              unfold maxLen at j4
              have G0 := hidI g0
              have G1 := hidI g1
              have G2 := hidI g2
              have G3 := hidI g3
              have G4 := hidI g4
              have HY := hidI g5.below
              obtain ⟨ps, ⟨kv, lv, i1, i2, i4⟩, i3⟩ := II.out
              have HPS := hidI i3
              have hpl : ps.length ≤ 100001 := by
                have h0 := congrArg List.length i3
                have h1 := wm_len (key := key) (x := x) (t.keys.zip t.l) false
                simp at h0 h1
                omega
              have hnk : (ps.map Prod.fst).length ≤ 1000000 := by rw [List.length_map]; omega
              have hnl : (ps.map Prod.snd).length ≤ 1000000 := by rw [List.length_map]; omega
              have OEc := hidI i2
              have hBc : w.heap.size + 3 + 1 ≤ wc.heap.size := i4
              have SOc := hidI i1
              have LK : Hid (∀ g, kv.ownBlock = some g → g < wc.heap.size) := hidI (fun g e => (i2.kown g e).2)
              clear he g0 g1 g2 g3 g4 g5 i1 i2 i3 i4 hpl
              go_upto_region 10 with fail
              refine wp_region_T (SO w 3 (FM w t x (some ⟨kb, ko, none⟩) (some ⟨xb, xo, none⟩) a3 a4 c1 c2 c3 c4) kv lv) [15] (by kernel_rfl) (SOc.out.drew HF.out) (fun hHeld => ?_)
              refine wpAnyT_take (i := 0) (v := ?_) [1, 4, 13, 14, 15, 16, 17] (oi := _) rfl (by kernel_rfl) (by kernel_rfl) (by kernel_rfl) (by kernel_rfl) (fun _ _ _ h => h) (Or.inl ⟨by rfl, ?_⟩) hHeld ?_
              rotate_left
              · intro wS hSw
                go_simp
                all_goals with_reducible rfl
              simp only [Act.put, List.setIfInBounds_toArray, List.set_cons_zero, List.set_cons_succ]
              refine wpAnyT_take (i := 1) (v := ?_) [4, 13, 14, 15, 16, 17] (oi := _) rfl (by kernel_rfl) (by kernel_rfl) (by kernel_rfl) (by kernel_rfl) (fun _ _ _ h => h) (Or.inl ⟨by rfl, ?_⟩) hHeld ?_
              rotate_left
              · intro wS hSw
                obtain ⟨s1, ⟨s2, s3, s5⟩, s4⟩ := hSw
                obtain ⟨x0, x1, x2, x3, x4, -⟩ := s1.c
                obtain ⟨y0, y1, y2, y3, y4, -⟩ := s2.c
                obtain ⟨z0, z1, z2, z3, z4, -⟩ := s3.c
                have e0 := cell_bel s4 G0.out
                have e1 := cell_bel s4 G1.out
                have e2 := cell_bel s4 G2.out
                have e3 := cell_bel s4 G3.out
                have e4 := cell_bel s4 G4.out
                go_simp
                all_goals with_reducible rfl
              simp only [Act.put, List.setIfInBounds_toArray, List.set_cons_zero, List.set_cons_succ]
              refine wpAnyT_take (i := 2) (v := ?_) [3, 4, 13, 14, 15, 16, 17] (oi := _) rfl (by kernel_rfl) (by kernel_rfl) (by kernel_rfl) (by kernel_rfl) (fun _ _ _ h => h) (Or.inl ⟨by rfl, ?_⟩) hHeld ?_
              rotate_left
              · intro wS hSw
                go_simp
                all_goals with_reducible rfl
              simp only [Act.put, List.setIfInBounds_toArray, List.set_cons_zero, List.set_cons_succ]
              refine wpAnyT_take (i := 5) (v := ?_) [6, 13, 14, 15, 16, 17] (oi := _) rfl (by kernel_rfl) (by kernel_rfl) (by kernel_rfl) (by kernel_rfl) (fun _ _ _ h => h) (Or.inl ⟨by rfl, ?_⟩) hHeld ?_
              rotate_left
              · intro wS hSw
                go_simp
                all_goals with_reducible rfl
              simp only [Act.put, List.setIfInBounds_toArray, List.set_cons_zero, List.set_cons_succ]
              refine wpAnyT_take (i := 6) (v := ?_) [13, 14, 15, 16, 17] (oi := _) rfl (by kernel_rfl) (by kernel_rfl) (by kernel_rfl) (by kernel_rfl) (fun _ _ _ h => h) (Or.inl ⟨by rfl, ?_⟩) hHeld ?_
              rotate_left
              · intro wS hSw
                obtain ⟨s1, ⟨s2, s3, s5⟩, s4⟩ := hSw
                obtain ⟨x0, x1, x2, x3, x4, -⟩ := s1.c
                obtain ⟨y0, y1, y2, y3, y4, -⟩ := s2.c
                obtain ⟨z0, z1, z2, z3, z4, -⟩ := s3.c
                have e0 := cell_bel s4 G0.out
                have e1 := cell_bel s4 G1.out
                have e2 := cell_bel s4 G2.out
                have e3 := cell_bel s4 G3.out
                have e4 := cell_bel s4 G4.out
                go_simp
                all_goals with_reducible rfl
              simp only [Act.put, List.setIfInBounds_toArray, List.set_cons_zero, List.set_cons_succ]
              refine wpAnyT_take (i := 7) (v := ?_) [8, 10, 11, 12, 13, 15, 16, 17] (oi := _) rfl (by kernel_rfl) (by kernel_rfl) (by kernel_rfl) (by kernel_rfl) (fun _ _ _ h => h) (Or.inl ⟨by rfl, ?_⟩) hHeld ?_
              rotate_left
              · intro wS hSw
                go_simp
                all_goals with_reducible rfl
              simp only [Act.put, List.setIfInBounds_toArray, List.set_cons_zero, List.set_cons_succ]
              refine wpAnyT_take (i := 8) (v := ?_) [10, 11, 12, 13, 15, 16, 17] (oi := _) rfl (by kernel_rfl) (by kernel_rfl) (by kernel_rfl) (by kernel_rfl) (fun _ _ _ h => h) (Or.inl ⟨by rfl, ?_⟩) hHeld ?_
              rotate_left
              · intro wS hSw
                obtain ⟨s1, ⟨s2, s3, s5⟩, s4⟩ := hSw
                obtain ⟨x0, x1, x2, x3, x4, -⟩ := s1.c
                obtain ⟨y0, y1, y2, y3, y4, -⟩ := s2.c
                obtain ⟨z0, z1, z2, z3, z4, -⟩ := s3.c
                have e0 := cell_bel s4 G0.out
                have e1 := cell_bel s4 G1.out
                have e2 := cell_bel s4 G2.out
                have e3 := cell_bel s4 G3.out
                have e4 := cell_bel s4 G4.out
                go_simp
                all_goals with_reducible rfl
              simp only [Act.put, List.setIfInBounds_toArray, List.set_cons_zero, List.set_cons_succ]
              refine wpAnyT_take (i := 9) (v := ?_) [10, 11, 12, 13, 15, 16, 17] (oi := _) rfl (by kernel_rfl) (by kernel_rfl) (by kernel_rfl) (by kernel_rfl) (fun _ _ _ h => h) (Or.inl ⟨by rfl, ?_⟩) hHeld ?_
              rotate_left
              · intro wS hSw
                go_simp
                all_goals with_reducible rfl
              simp only [Act.put, List.setIfInBounds_toArray, List.set_cons_zero, List.set_cons_succ]
              refine wpAnyT_take (i := 10) (v := ?_) [11, 12, 13, 15, 16, 17] (oi := _) rfl (by kernel_rfl) (by kernel_rfl) (by kernel_rfl) (by kernel_rfl) (fun _ _ _ h => h) (Or.inl ⟨by rfl, ?_⟩) hHeld ?_
              rotate_left
              · intro wS hSw
                go_simp
                all_goals with_reducible rfl
              simp only [Act.put, List.setIfInBounds_toArray, List.set_cons_zero, List.set_cons_succ]
              refine wpAnyT_take (i := 11) (v := ?_) [12, 13, 15, 16, 17] (oi := _) rfl (by kernel_rfl) (by kernel_rfl) (by kernel_rfl) (by kernel_rfl) (fun _ _ _ h => h) (Or.inl ⟨by rfl, ?_⟩) hHeld ?_
              rotate_left
              · intro wS hSw
                obtain ⟨s1, ⟨s2, s3, s5⟩, s4⟩ := hSw
                obtain ⟨x0, x1, x2, x3, x4, -⟩ := s1.c
                obtain ⟨y0, y1, y2, y3, y4, -⟩ := s2.c
                obtain ⟨z0, z1, z2, z3, z4, -⟩ := s3.c
                have e0 := cell_bel s4 G0.out
                have e1 := cell_bel s4 G1.out
                have e2 := cell_bel s4 G2.out
                have e3 := cell_bel s4 G3.out
                have e4 := cell_bel s4 G4.out
                go_simp
                all_goals with_reducible rfl
              simp only [Act.put, List.setIfInBounds_toArray, List.set_cons_zero, List.set_cons_succ]
              refine wpAnyT_ready (rs := [3, 12]) (by kernel_rfl) (by simp) ?_
              refine AllReadyT.cons (i := 3) (o := _) rfl (fun K hK => ?_) ?_
              · go_simp
                replace SOc := hidI (SOc.out.alloc HF.out (.cells #[.string ⟨t.keys[k].toArray⟩] 9))
                replace OEc := hidI (OEc.out.bel (bel_alloc _ (.cells #[.string ⟨t.keys[k].toArray⟩] 9)))
                replace hBc := Nat.le_trans hBc (bel_alloc _ (.cells #[.string ⟨t.keys[k].toArray⟩] 9)).size
                have NBK : Hid ((wc.alloc (.cells #[.string ⟨t.keys[k].toArray⟩] 9)).heap[wc.heap.size]? = some (.cells #[.string ⟨t.keys[k].toArray⟩] 9)) := hidI (heap_alloc_new _ _)
                refine hK.out _ _ (SOc.out.drew HF.out) (fun hHeld2 => ?_)
                clear hK K
                replace hHeld := hHeld2
                clear hHeld2
                try simp only [Act.put, List.setIfInBounds_toArray, List.set_cons_zero, List.set_cons_succ]
                refine wpAnyT_ready (rs := [4, 12]) (by kernel_rfl) (by simp) ?_
                refine AllReadyT.cons (i := 4) (o := _) rfl (fun K hK => ?_) ?_
                · have OEd := hidI OEc.out.drew
                  have NBd : Hid (((wc.alloc (.cells #[.string ⟨t.keys[k].toArray⟩] 9)).drew).heap[wc.heap.size]? = some (.cells #[.string ⟨t.keys[k].toArray⟩] 9)) := hidI NBK.out
                  refine step_run (by rfl) (.tmp 43) (.tmp 45) 22 (by rfl) _ _ rfl rfl _ (fun ty => OEd.out.key NBd.out hnk (by exact hBc) ty) (fun v9 W9 hR => ?_)
                  obtain ⟨ho9, hg9, gK, cK, rfl⟩ := hR
                  replace SOc := hidI (hHeld.grown HF.out hg9 (fun g e => (OEd.out.kown g e).1))
                  refine hK.out _ _ SOc.out (fun hHeld2 => ?_)
                  replace OEc := hidI ho9
                  replace hBc := Nat.le_trans (by exact hBc) hg9.size
                  clear ho9 hg9 OEd NBd
                  clear hK K
                  replace hHeld := hHeld2
                  clear hHeld2
                  try simp only [Act.put, List.setIfInBounds_toArray, List.set_cons_zero, List.set_cons_succ]
                  refine wpAnyT_take (i := 14) (v := ?_) [15, 16, 17] (oi := _) rfl (by kernel_rfl) (by kernel_rfl) (by kernel_rfl) (by kernel_rfl) (fun _ _ _ h => h) (Or.inl ⟨by rfl, ?_⟩) hHeld ?_
                  rotate_left
                  · intro wS hSw
                    go_simp
                    all_goals with_reducible rfl
                  simp only [Act.put, List.setIfInBounds_toArray, List.set_cons_zero, List.set_cons_succ]
                  refine wpAnyT_ready (rs := [12]) (by kernel_rfl) (by simp) ?_
                  refine AllReadyT.cons (i := 12) (o := _) rfl (fun K hK => ?_) ?_
                  · go_simp
                    replace SOc := hidI (SOc.out.alloc HF.out (.cells #[.int .i64 t.l[k].kind, .int .i64 t.l[k].n, .string ⟨t.l[k].s.toArray⟩, .slice a5 t.l[k].keys.length c5, .slice a6 t.l[k].l.length c6] 25))
                    replace OEc := hidI (OEc.out.bel (bel_alloc _ (.cells #[.int .i64 t.l[k].kind, .int .i64 t.l[k].n, .string ⟨t.l[k].s.toArray⟩, .slice a5 t.l[k].keys.length c5, .slice a6 t.l[k].l.length c6] 25)))
                    replace hBc := Nat.le_trans hBc (bel_alloc _ (.cells #[.int .i64 t.l[k].kind, .int .i64 t.l[k].n, .string ⟨t.l[k].s.toArray⟩, .slice a5 t.l[k].keys.length c5, .slice a6 t.l[k].l.length c6] 25)).size
                    have NBV : Hid ((W9.alloc (.cells #[.int .i64 t.l[k].kind, .int .i64 t.l[k].n, .string ⟨t.l[k].s.toArray⟩, .slice a5 t.l[k].keys.length c5, .slice a6 t.l[k].l.length c6] 25)).heap[W9.heap.size]? = some (.cells #[.int .i64 t.l[k].kind, .int .i64 t.l[k].n, .string ⟨t.l[k].s.toArray⟩, .slice a5 t.l[k].keys.length c5, .slice a6 t.l[k].l.length c6] 25)) := hidI (heap_alloc_new _ _)
                    refine hK.out _ _ (SOc.out) (fun hHeld2 => ?_)
                    clear hK K
                    replace hHeld := hHeld2
                    clear hHeld2
                    try simp only [Act.put, List.setIfInBounds_toArray, List.set_cons_zero, List.set_cons_succ]
                    refine wpAnyT_ready (rs := [13]) (by kernel_rfl) (by simp) ?_
                    refine AllReadyT.cons (i := 13) (o := _) rfl (fun K hK => ?_) ?_
                    · have OEd := hidI OEc.out
                      have HY2 := hidI (HY.out.bel OEd.out.below)
                      have NBd := hidI NBV.out
                      refine step_run (by rfl) (.tmp 48) (.tmp 54) 23 (by rfl) _ _ rfl rfl _ (fun ty => OEd.out.item NBd.out HY2.out hnl (by exact hBc) ty) (fun v9 W9 hR => ?_)
                      obtain ⟨ho9, hg9, gV, cV, rfl⟩ := hR
                      replace SOc := hidI (hHeld.grown HF.out hg9 (fun g e => (OEd.out.lown g e).1))
                      refine hK.out _ _ SOc.out (fun hHeld2 => ?_)
                      replace OEc := hidI ho9
                      replace hBc := Nat.le_trans (by exact hBc) hg9.size
                      clear ho9 hg9 OEd NBd
                      clear hK K
                      replace hHeld := hHeld2
                      clear hHeld2
                      try simp only [Act.put, List.setIfInBounds_toArray, List.set_cons_zero, List.set_cons_succ]
                      obtain ⟨o0, o1, o2, o3, o4, f0, f1, f2, f3, f4⟩ := hHeld.1.c
                      have HE := hidI hHeld
                      clear hHeld
                      refine wpAnyT_last (i := 15) (o := _) (by kernel_rfl) (by rfl) rfl (fun K hK => ?_)
                      go_simp
                      refine hK.out _ _ ?_
                      clear hK K
                      try simp only [Act.put, List.setIfInBounds_toArray, List.set_cons_zero, List.set_cons_succ]
                      refine wpAnyT_last (i := 16) (o := _) (by kernel_rfl) (by rfl) rfl (fun K hK => ?_)
                      go_simp
                      refine hK.out _ _ ?_
                      clear hK K
                      try simp only [Act.put, List.setIfInBounds_toArray, List.set_cons_zero, List.set_cons_succ]
                      refine wpAnyT_last (i := 17) (o := _) (by kernel_rfl) (by rfl) rfl (fun K hK => ?_)
                      go_simp
                      refine hK.out _ _ ?_
                      clear hK K
                      try simp only [Act.put, List.setIfInBounds_toArray, List.set_cons_zero, List.set_cons_succ]
                      refine wpAnyT_done (by kernel_rfl) ?_ _
                      go_wp2_with fail
                      go_roundg (t.keys.length - (k + 1))
                      case measure => rw [GK.out]; omega
                      case rel => exact ⟨k + 1, b, hlt, rfl, by go_num, rfl, wm_item hlt hlt' HNE.out HBL.out HPS.out HE.out (by have h9 := OEc.out; simp only [List.length_map] at h9; exact h9)⟩
                    exact AllReadyT.nil
                  exact AllReadyT.nil
                refine AllReadyT.cons (i := 12) (o := _) rfl (fun K hK => ?_) ?_
                · go_simp
                  replace SOc := hidI (SOc.out.alloc HF.out (.cells #[.int .i64 t.l[k].kind, .int .i64 t.l[k].n, .string ⟨t.l[k].s.toArray⟩, .slice a5 t.l[k].keys.length c5, .slice a6 t.l[k].l.length c6] 25))
                  replace OEc := hidI (OEc.out.bel (bel_alloc _ (.cells #[.int .i64 t.l[k].kind, .int .i64 t.l[k].n, .string ⟨t.l[k].s.toArray⟩, .slice a5 t.l[k].keys.length c5, .slice a6 t.l[k].l.length c6] 25)))
                  replace hBc := Nat.le_trans hBc (bel_alloc _ (.cells #[.int .i64 t.l[k].kind, .int .i64 t.l[k].n, .string ⟨t.l[k].s.toArray⟩, .slice a5 t.l[k].keys.length c5, .slice a6 t.l[k].l.length c6] 25)).size
                  clear NBK
                  have NBK : Hid (((wc.alloc (.cells #[.string ⟨t.keys[k].toArray⟩] 9)).alloc (.cells #[.int .i64 t.l[k].kind, .int .i64 t.l[k].n, .string ⟨t.l[k].s.toArray⟩, .slice a5 t.l[k].keys.length c5, .slice a6 t.l[k].l.length c6] 25)).heap[wc.heap.size]? = some (.cells #[.string ⟨t.keys[k].toArray⟩] 9)) := hidI (h2a _ _ _)
                  have NBV : Hid (((wc.alloc (.cells #[.string ⟨t.keys[k].toArray⟩] 9)).alloc (.cells #[.int .i64 t.l[k].kind, .int .i64 t.l[k].n, .string ⟨t.l[k].s.toArray⟩, .slice a5 t.l[k].keys.length c5, .slice a6 t.l[k].l.length c6] 25)).heap[wc.heap.size + 1]? = some (.cells #[.int .i64 t.l[k].kind, .int .i64 t.l[k].n, .string ⟨t.l[k].s.toArray⟩, .slice a5 t.l[k].keys.length c5, .slice a6 t.l[k].l.length c6] 25)) := hidI (h2b _ _ _)
                  refine hK.out _ _ (SOc.out.drew HF.out) (fun hHeld2 => ?_)
                  clear hK K
                  replace hHeld := hHeld2
                  clear hHeld2
                  try simp only [Act.put, List.setIfInBounds_toArray, List.set_cons_zero, List.set_cons_succ]
                  refine wpAnyT_ready (rs := [4]) (by kernel_rfl) (by simp) ?_
                  refine AllReadyT.cons (i := 4) (o := _) rfl (fun K hK => ?_) ?_
                  · have OEd := hidI OEc.out.drew
                    have NBd : Hid ((((wc.alloc (.cells #[.string ⟨t.keys[k].toArray⟩] 9)).alloc (.cells #[.int .i64 t.l[k].kind, .int .i64 t.l[k].n, .string ⟨t.l[k].s.toArray⟩, .slice a5 t.l[k].keys.length c5, .slice a6 t.l[k].l.length c6] 25)).drew).heap[wc.heap.size]? = some (.cells #[.string ⟨t.keys[k].toArray⟩] 9)) := hidI NBK.out
                    refine step_run (by rfl) (.tmp 43) (.tmp 45) 22 (by rfl) _ _ rfl rfl _ (fun ty => OEd.out.key NBd.out hnk (by exact hBc) ty) (fun v9 W9 hR => ?_)
                    obtain ⟨ho9, hg9, gK, cK, rfl⟩ := hR
                    replace SOc := hidI (hHeld.grown HF.out hg9 (fun g e => (OEd.out.kown g e).1))
                    refine hK.out _ _ SOc.out (fun hHeld2 => ?_)
                    replace NBV := hidI (nb_grown ((by exact NBV.out : (((wc.alloc (.cells #[.string ⟨t.keys[k].toArray⟩] 9)).alloc (.cells #[.int .i64 t.l[k].kind, .int .i64 t.l[k].n, .string ⟨t.l[k].s.toArray⟩, .slice a5 t.l[k].keys.length c5, .slice a6 t.l[k].l.length c6] 25)).drew).heap[wc.heap.size + 1]? = some (.cells #[.int .i64 t.l[k].kind, .int .i64 t.l[k].n, .string ⟨t.l[k].s.toArray⟩, .slice a5 t.l[k].keys.length c5, .slice a6 t.l[k].l.length c6] 25))) hg9 (fun e => by have := LK.out _ e.symm; omega))
                    replace OEc := hidI ho9
                    replace hBc := Nat.le_trans (by exact hBc) hg9.size
                    clear ho9 hg9 OEd NBd
                    clear hK K
                    replace hHeld := hHeld2
                    clear hHeld2
                    try simp only [Act.put, List.setIfInBounds_toArray, List.set_cons_zero, List.set_cons_succ]
                    refine wpAnyT_take (i := 14) (v := ?_) [15, 16, 17] (oi := _) rfl (by kernel_rfl) (by kernel_rfl) (by kernel_rfl) (by kernel_rfl) (fun _ _ _ h => h) (Or.inl ⟨by rfl, ?_⟩) hHeld ?_
                    rotate_left
                    · intro wS hSw
                      go_simp
                      all_goals with_reducible rfl
                    simp only [Act.put, List.setIfInBounds_toArray, List.set_cons_zero, List.set_cons_succ]
                    refine wpAnyT_ready (rs := [13]) (by kernel_rfl) (by simp) ?_
                    refine AllReadyT.cons (i := 13) (o := _) rfl (fun K hK => ?_) ?_
                    · have OEd := hidI OEc.out
                      have HY2 := hidI (HY.out.bel OEd.out.below)
                      have NBd := hidI NBV.out
                      refine step_run (by rfl) (.tmp 48) (.tmp 54) 23 (by rfl) _ _ rfl rfl _ (fun ty => OEd.out.item NBd.out HY2.out hnl (by exact hBc) ty) (fun v9 W9 hR => ?_)
                      obtain ⟨ho9, hg9, gV, cV, rfl⟩ := hR
                      replace SOc := hidI (hHeld.grown HF.out hg9 (fun g e => (OEd.out.lown g e).1))
                      refine hK.out _ _ SOc.out (fun hHeld2 => ?_)
                      replace OEc := hidI ho9
                      replace hBc := Nat.le_trans (by exact hBc) hg9.size
                      clear ho9 hg9 OEd NBd
                      clear hK K
                      replace hHeld := hHeld2
                      clear hHeld2
                      try simp only [Act.put, List.setIfInBounds_toArray, List.set_cons_zero, List.set_cons_succ]
                      obtain ⟨o0, o1, o2, o3, o4, f0, f1, f2, f3, f4⟩ := hHeld.1.c
                      have HE := hidI hHeld
                      clear hHeld
                      refine wpAnyT_last (i := 15) (o := _) (by kernel_rfl) (by rfl) rfl (fun K hK => ?_)
                      go_simp
                      refine hK.out _ _ ?_
                      clear hK K
                      try simp only [Act.put, List.setIfInBounds_toArray, List.set_cons_zero, List.set_cons_succ]
                      refine wpAnyT_last (i := 16) (o := _) (by kernel_rfl) (by rfl) rfl (fun K hK => ?_)
                      go_simp
                      refine hK.out _ _ ?_
                      clear hK K
                      try simp only [Act.put, List.setIfInBounds_toArray, List.set_cons_zero, List.set_cons_succ]
                      refine wpAnyT_last (i := 17) (o := _) (by kernel_rfl) (by rfl) rfl (fun K hK => ?_)
                      go_simp
                      refine hK.out _ _ ?_
                      clear hK K
                      try simp only [Act.put, List.setIfInBounds_toArray, List.set_cons_zero, List.set_cons_succ]
                      refine wpAnyT_done (by kernel_rfl) ?_ _
                      go_wp2_with fail
                      go_roundg (t.keys.length - (k + 1))
                      case measure => rw [GK.out]; omega
                      case rel => exact ⟨k + 1, b, hlt, rfl, by go_num, rfl, wm_item hlt hlt' HNE.out HBL.out HPS.out HE.out (by have h9 := OEc.out; simp only [List.length_map] at h9; exact h9)⟩
                    exact AllReadyT.nil
                  exact AllReadyT.nil
                exact AllReadyT.nil
              refine AllReadyT.cons (i := 12) (o := _) rfl (fun K hK => ?_) ?_
              · go_simp
                replace SOc := hidI (SOc.out.alloc HF.out (.cells #[.int .i64 t.l[k].kind, .int .i64 t.l[k].n, .string ⟨t.l[k].s.toArray⟩, .slice a5 t.l[k].keys.length c5, .slice a6 t.l[k].l.length c6] 25))
                replace OEc := hidI (OEc.out.bel (bel_alloc _ (.cells #[.int .i64 t.l[k].kind, .int .i64 t.l[k].n, .string ⟨t.l[k].s.toArray⟩, .slice a5 t.l[k].keys.length c5, .slice a6 t.l[k].l.length c6] 25)))
                replace hBc := Nat.le_trans hBc (bel_alloc _ (.cells #[.int .i64 t.l[k].kind, .int .i64 t.l[k].n, .string ⟨t.l[k].s.toArray⟩, .slice a5 t.l[k].keys.length c5, .slice a6 t.l[k].l.length c6] 25)).size
                have NBV : Hid ((wc.alloc (.cells #[.int .i64 t.l[k].kind, .int .i64 t.l[k].n, .string ⟨t.l[k].s.toArray⟩, .slice a5 t.l[k].keys.length c5, .slice a6 t.l[k].l.length c6] 25)).heap[wc.heap.size]? = some (.cells #[.int .i64 t.l[k].kind, .int .i64 t.l[k].n, .string ⟨t.l[k].s.toArray⟩, .slice a5 t.l[k].keys.length c5, .slice a6 t.l[k].l.length c6] 25)) := hidI (heap_alloc_new _ _)
                refine hK.out _ _ (SOc.out.drew HF.out) (fun hHeld2 => ?_)
                clear hK K
                replace hHeld := hHeld2
                clear hHeld2
                try simp only [Act.put, List.setIfInBounds_toArray, List.set_cons_zero, List.set_cons_succ]
                refine wpAnyT_ready (rs := [3]) (by kernel_rfl) (by simp) ?_
                refine AllReadyT.cons (i := 3) (o := _) rfl (fun K hK => ?_) ?_
                · go_simp
                  replace SOc := hidI (SOc.out.alloc HF.out (.cells #[.string ⟨t.keys[k].toArray⟩] 9))
                  replace OEc := hidI (OEc.out.bel (bel_alloc _ (.cells #[.string ⟨t.keys[k].toArray⟩] 9)))
                  replace hBc := Nat.le_trans hBc (bel_alloc _ (.cells #[.string ⟨t.keys[k].toArray⟩] 9)).size
                  clear NBV
                  have NBV : Hid (((wc.alloc (.cells #[.int .i64 t.l[k].kind, .int .i64 t.l[k].n, .string ⟨t.l[k].s.toArray⟩, .slice a5 t.l[k].keys.length c5, .slice a6 t.l[k].l.length c6] 25)).alloc (.cells #[.string ⟨t.keys[k].toArray⟩] 9)).heap[wc.heap.size]? = some (.cells #[.int .i64 t.l[k].kind, .int .i64 t.l[k].n, .string ⟨t.l[k].s.toArray⟩, .slice a5 t.l[k].keys.length c5, .slice a6 t.l[k].l.length c6] 25)) := hidI (h2a _ _ _)
                  have NBK : Hid (((wc.alloc (.cells #[.int .i64 t.l[k].kind, .int .i64 t.l[k].n, .string ⟨t.l[k].s.toArray⟩, .slice a5 t.l[k].keys.length c5, .slice a6 t.l[k].l.length c6] 25)).alloc (.cells #[.string ⟨t.keys[k].toArray⟩] 9)).heap[wc.heap.size + 1]? = some (.cells #[.string ⟨t.keys[k].toArray⟩] 9)) := hidI (h2b _ _ _)
                  refine hK.out _ _ (SOc.out.drew HF.out) (fun hHeld2 => ?_)
                  clear hK K
                  replace hHeld := hHeld2
                  clear hHeld2
                  try simp only [Act.put, List.setIfInBounds_toArray, List.set_cons_zero, List.set_cons_succ]
                  refine wpAnyT_ready (rs := [4]) (by kernel_rfl) (by simp) ?_
                  refine AllReadyT.cons (i := 4) (o := _) rfl (fun K hK => ?_) ?_
                  · have OEd := hidI OEc.out.drew
                    have NBd : Hid ((((wc.alloc (.cells #[.int .i64 t.l[k].kind, .int .i64 t.l[k].n, .string ⟨t.l[k].s.toArray⟩, .slice a5 t.l[k].keys.length c5, .slice a6 t.l[k].l.length c6] 25)).alloc (.cells #[.string ⟨t.keys[k].toArray⟩] 9)).drew).heap[wc.heap.size + 1]? = some (.cells #[.string ⟨t.keys[k].toArray⟩] 9)) := hidI NBK.out
                    refine step_run (by rfl) (.tmp 43) (.tmp 45) 22 (by rfl) _ _ rfl rfl _ (fun ty => OEd.out.key NBd.out hnk (by exact hBc) ty) (fun v9 W9 hR => ?_)
                    obtain ⟨ho9, hg9, gK, cK, rfl⟩ := hR
                    replace SOc := hidI (hHeld.grown HF.out hg9 (fun g e => (OEd.out.kown g e).1))
                    refine hK.out _ _ SOc.out (fun hHeld2 => ?_)
                    replace NBV := hidI (nb_grown ((by exact NBV.out : (((wc.alloc (.cells #[.int .i64 t.l[k].kind, .int .i64 t.l[k].n, .string ⟨t.l[k].s.toArray⟩, .slice a5 t.l[k].keys.length c5, .slice a6 t.l[k].l.length c6] 25)).alloc (.cells #[.string ⟨t.keys[k].toArray⟩] 9)).drew).heap[wc.heap.size]? = some (.cells #[.int .i64 t.l[k].kind, .int .i64 t.l[k].n, .string ⟨t.l[k].s.toArray⟩, .slice a5 t.l[k].keys.length c5, .slice a6 t.l[k].l.length c6] 25))) hg9 (fun e => by have := LK.out _ e.symm; omega))
                    replace OEc := hidI ho9
                    replace hBc := Nat.le_trans (by exact hBc) hg9.size
                    clear ho9 hg9 OEd NBd
                    clear hK K
                    replace hHeld := hHeld2
                    clear hHeld2
                    try simp only [Act.put, List.setIfInBounds_toArray, List.set_cons_zero, List.set_cons_succ]
                    refine wpAnyT_take (i := 14) (v := ?_) [15, 16, 17] (oi := _) rfl (by kernel_rfl) (by kernel_rfl) (by kernel_rfl) (by kernel_rfl) (fun _ _ _ h => h) (Or.inl ⟨by rfl, ?_⟩) hHeld ?_
                    rotate_left
                    · intro wS hSw
                      go_simp
                      all_goals with_reducible rfl
                    simp only [Act.put, List.setIfInBounds_toArray, List.set_cons_zero, List.set_cons_succ]
                    refine wpAnyT_ready (rs := [13]) (by kernel_rfl) (by simp) ?_
                    refine AllReadyT.cons (i := 13) (o := _) rfl (fun K hK => ?_) ?_
                    · have OEd := hidI OEc.out
                      have HY2 := hidI (HY.out.bel OEd.out.below)
                      have NBd := hidI NBV.out
                      refine step_run (by rfl) (.tmp 48) (.tmp 54) 23 (by rfl) _ _ rfl rfl _ (fun ty => OEd.out.item NBd.out HY2.out hnl (by exact hBc) ty) (fun v9 W9 hR => ?_)
                      obtain ⟨ho9, hg9, gV, cV, rfl⟩ := hR
                      replace SOc := hidI (hHeld.grown HF.out hg9 (fun g e => (OEd.out.lown g e).1))
                      refine hK.out _ _ SOc.out (fun hHeld2 => ?_)
                      replace OEc := hidI ho9
                      replace hBc := Nat.le_trans (by exact hBc) hg9.size
                      clear ho9 hg9 OEd NBd
                      clear hK K
                      replace hHeld := hHeld2
                      clear hHeld2
                      try simp only [Act.put, List.setIfInBounds_toArray, List.set_cons_zero, List.set_cons_succ]
                      obtain ⟨o0, o1, o2, o3, o4, f0, f1, f2, f3, f4⟩ := hHeld.1.c
                      have HE := hidI hHeld
                      clear hHeld
                      refine wpAnyT_last (i := 15) (o := _) (by kernel_rfl) (by rfl) rfl (fun K hK => ?_)
                      go_simp
                      refine hK.out _ _ ?_
                      clear hK K
                      try simp only [Act.put, List.setIfInBounds_toArray, List.set_cons_zero, List.set_cons_succ]
                      refine wpAnyT_last (i := 16) (o := _) (by kernel_rfl) (by rfl) rfl (fun K hK => ?_)
                      go_simp
                      refine hK.out _ _ ?_
                      clear hK K
                      try simp only [Act.put, List.setIfInBounds_toArray, List.set_cons_zero, List.set_cons_succ]
                      refine wpAnyT_last (i := 17) (o := _) (by kernel_rfl) (by rfl) rfl (fun K hK => ?_)
                      go_simp
                      refine hK.out _ _ ?_
                      clear hK K
                      try simp only [Act.put, List.setIfInBounds_toArray, List.set_cons_zero, List.set_cons_succ]
                      refine wpAnyT_done (by kernel_rfl) ?_ _
                      go_wp2_with fail
                      go_roundg (t.keys.length - (k + 1))
                      case measure => rw [GK.out]; omega
                      case rel => exact ⟨k + 1, b, hlt, rfl, by go_num, rfl, wm_item hlt hlt' HNE.out HBL.out HPS.out HE.out (by have h9 := OEc.out; simp only [List.length_map] at h9; exact h9)⟩
                    exact AllReadyT.nil
                  exact AllReadyT.nil
                exact AllReadyT.nil
              exact AllReadyT.nil
    · have hke : k = t.keys.length := by omega
      subst hke
      have d1 : ¬ (t.keys.length : Int) < (t.keys.length : Int) := by omega
      obtain ⟨ps, ⟨kv, lv, i1, i2, i4⟩, i3⟩ := II.out
      rw [List.drop_eq_nil_of_le (by simp; omega)] at i3
      cases b with
      | true =>
        obtain ⟨n1, n2, n3, n4, hk1, hk2⟩ := i2.forms
        rw [List.length_map] at hk1 hk2
        subst hk1
        subst hk2
        obtain ⟨Z1, Z2, Z3, Z4⟩ := wm_fin OB.out hkey VV.out.2 lk ⟨ps, by rw [← i3]; simp [wmF], i1, i2⟩
        have ZB := hidI Z4
        have Z := hidI (And.intro Z1 Z2)
        have Z0 := hidI Z3.1
        have O0 := hidI Z3.2
        clear Z1 Z2 Z3 Z4 i1 i2 i3 i4
        obtain ⟨z0, z1, z2, z3, z4, z5, z6, z7, z8, z9⟩ := Z0.out.c
        obtain ⟨o0, o1, o2, o3, o4, -⟩ := O0.out.c
        go_wp2_with fail
        obtain ⟨q0, q1, q2, q3, q4, -⟩ := ZB.out.c
        refine bodyPost_ret (v := .agg #[.int .i64 5, .int .i64 0, .string ⟨#[]⟩, .slice n1 ps.length n2, .slice n3 ps.length n4]) ?_ rfl ?_
        · simp only [set5] at q0 q1 q2 q3 q4
          simp [results, Tryd.results54, go_sem, q0, q1, q2, q3, q4]
        · exact ⟨_, rfl, Z.out.1, Z.out.2⟩
      | false =>
        have HPS : Hid (ps ++ [(key, x)] = wmF key x (t.keys.zip t.l) false) := hidI (by rw [← i3]; simp [wmF])
        have hpl : ps.length ≤ 100001 := by
          have h0 := congrArg List.length i3
          have h1 := wm_len (key := key) (x := x) (t.keys.zip t.l) false
          simp at h0 h1
          omega
        have hnk : (ps.map Prod.fst).length ≤ 1000000 := by rw [List.length_map]; omega
        have hnl : (ps.map Prod.snd).length ≤ 1000000 := by rw [List.length_map]; omega
        have OEc := hidI i2
        have hBc : w.heap.size + 3 + 1 ≤ wr.heap.size := i4
        have SOc := hidI i1
        have LK : Hid (∀ g, kv.ownBlock = some g → g < wr.heap.size) := hidI (fun g e => (i2.kown g e).2)
        have HY := HX
        clear i1 i2 i3 i4 hpl
        go_upto_region 13 with fail
        refine wp_region_T (SO w 3 (FM w t x a1 a2 a3 a4 c1 c2 c3 c4) kv lv) [11] (by kernel_rfl) (SOc.out.drew HF.out) (fun hHeld => ?_)
        refine wpAnyT_take (i := 0) (v := ?_) [1, 4, 9, 10, 11, 12, 13] (oi := _) rfl (by kernel_rfl) (by kernel_rfl) (by kernel_rfl) (by kernel_rfl) (fun _ _ _ h => h) (Or.inl ⟨by rfl, ?_⟩) hHeld ?_
        rotate_left
        · intro wS hSw
          go_simp
          all_goals with_reducible rfl
        simp only [Act.put, List.setIfInBounds_toArray, List.set_cons_zero, List.set_cons_succ]
        refine wpAnyT_take (i := 1) (v := ?_) [4, 9, 10, 11, 12, 13] (oi := _) rfl (by kernel_rfl) (by kernel_rfl) (by kernel_rfl) (by kernel_rfl) (fun _ _ _ h => h) (Or.inl ⟨by rfl, ?_⟩) hHeld ?_
        rotate_left
        · intro wS hSw
          obtain ⟨s1, ⟨s2, s3, s5⟩, s4⟩ := hSw
          obtain ⟨x0, x1, x2, x3, x4, -⟩ := s1.c
          obtain ⟨y0, y1, y2, y3, y4, -⟩ := s2.c
          obtain ⟨z0, z1, z2, z3, z4, -⟩ := s3.c
          go_simp
          all_goals with_reducible rfl
        simp only [Act.put, List.setIfInBounds_toArray, List.set_cons_zero, List.set_cons_succ]
        refine wpAnyT_take (i := 2) (v := ?_) [3, 4, 9, 10, 11, 12, 13] (oi := _) rfl (by kernel_rfl) (by kernel_rfl) (by kernel_rfl) (by kernel_rfl) (fun _ _ _ h => h) (Or.inl ⟨by rfl, ?_⟩) hHeld ?_
        rotate_left
        · intro wS hSw
          go_simp
          all_goals with_reducible rfl
        simp only [Act.put, List.setIfInBounds_toArray, List.set_cons_zero, List.set_cons_succ]
        refine wpAnyT_take (i := 5) (v := ?_) [6, 9, 10, 11, 12, 13] (oi := _) rfl (by kernel_rfl) (by kernel_rfl) (by kernel_rfl) (by kernel_rfl) (fun _ _ _ h => h) (Or.inl ⟨by rfl, ?_⟩) hHeld ?_
        rotate_left
        · intro wS hSw
          go_simp
          all_goals with_reducible rfl
        simp only [Act.put, List.setIfInBounds_toArray, List.set_cons_zero, List.set_cons_succ]
        refine wpAnyT_take (i := 6) (v := ?_) [9, 10, 11, 12, 13] (oi := _) rfl (by kernel_rfl) (by kernel_rfl) (by kernel_rfl) (by kernel_rfl) (fun _ _ _ h => h) (Or.inl ⟨by rfl, ?_⟩) hHeld ?_
        rotate_left
        · intro wS hSw
          obtain ⟨s1, ⟨s2, s3, s5⟩, s4⟩ := hSw
          obtain ⟨x0, x1, x2, x3, x4, -⟩ := s1.c
          obtain ⟨y0, y1, y2, y3, y4, -⟩ := s2.c
          obtain ⟨z0, z1, z2, z3, z4, -⟩ := s3.c
          go_simp
          all_goals with_reducible rfl
        simp only [Act.put, List.setIfInBounds_toArray, List.set_cons_zero, List.set_cons_succ]
        refine wpAnyT_take (i := 7) (v := ?_) [8, 9, 11, 12, 13] (oi := _) rfl (by kernel_rfl) (by kernel_rfl) (by kernel_rfl) (by kernel_rfl) (fun _ _ _ h => h) (Or.inl ⟨by rfl, ?_⟩) hHeld ?_
        rotate_left
        · intro wS hSw
          obtain ⟨s1, ⟨s2, s3, s5⟩, s4⟩ := hSw
          obtain ⟨x0, x1, x2, x3, x4, -⟩ := s1.c
          obtain ⟨y0, y1, y2, y3, y4, -⟩ := s2.c
          obtain ⟨z0, z1, z2, z3, z4, -⟩ := s3.c
          go_simp
          all_goals with_reducible rfl
        simp only [Act.put, List.setIfInBounds_toArray, List.set_cons_zero, List.set_cons_succ]
        refine wpAnyT_ready (rs := [3, 8]) (by kernel_rfl) (by simp) ?_
        refine AllReadyT.cons (i := 3) (o := _) rfl (fun K hK => ?_) ?_
        · go_simp
          replace SOc := hidI (SOc.out.alloc HF.out (.cells #[.string ⟨key.toArray⟩] 9))
          replace OEc := hidI (OEc.out.bel (bel_alloc _ (.cells #[.string ⟨key.toArray⟩] 9)))
          replace hBc := Nat.le_trans hBc (bel_alloc _ (.cells #[.string ⟨key.toArray⟩] 9)).size
          have NBK : Hid ((wr.alloc (.cells #[.string ⟨key.toArray⟩] 9)).heap[wr.heap.size]? = some (.cells #[.string ⟨key.toArray⟩] 9)) := hidI (heap_alloc_new _ _)
          refine hK.out _ _ (SOc.out.drew HF.out) (fun hHeld2 => ?_)
          clear hK K
          replace hHeld := hHeld2
          clear hHeld2
          try simp only [Act.put, List.setIfInBounds_toArray, List.set_cons_zero, List.set_cons_succ]
          refine wpAnyT_ready (rs := [4, 8]) (by kernel_rfl) (by simp) ?_
          refine AllReadyT.cons (i := 4) (o := _) rfl (fun K hK => ?_) ?_
          · have OEd := hidI OEc.out.drew
            have NBd : Hid (((wr.alloc (.cells #[.string ⟨key.toArray⟩] 9)).drew).heap[wr.heap.size]? = some (.cells #[.string ⟨key.toArray⟩] 9)) := hidI NBK.out
            refine step_run (by rfl) (.tmp 62) (.tmp 64) 22 (by rfl) _ _ rfl rfl _ (fun ty => OEd.out.key NBd.out hnk (by exact hBc) ty) (fun v9 W9 hR => ?_)
            obtain ⟨ho9, hg9, gK, cK, rfl⟩ := hR
            replace SOc := hidI (hHeld.grown HF.out hg9 (fun g e => (OEd.out.kown g e).1))
            refine hK.out _ _ SOc.out (fun hHeld2 => ?_)
            replace OEc := hidI ho9
            replace hBc := Nat.le_trans (by exact hBc) hg9.size
            clear ho9 hg9 OEd NBd
            clear hK K
            replace hHeld := hHeld2
            clear hHeld2
            try simp only [Act.put, List.setIfInBounds_toArray, List.set_cons_zero, List.set_cons_succ]
            refine wpAnyT_take (i := 10) (v := ?_) [11, 12, 13] (oi := _) rfl (by kernel_rfl) (by kernel_rfl) (by kernel_rfl) (by kernel_rfl) (fun _ _ _ h => h) (Or.inl ⟨by rfl, ?_⟩) hHeld ?_
            rotate_left
            · intro wS hSw
              go_simp
              all_goals with_reducible rfl
            simp only [Act.put, List.setIfInBounds_toArray, List.set_cons_zero, List.set_cons_succ]
            refine wpAnyT_ready (rs := [8]) (by kernel_rfl) (by simp) ?_
            refine AllReadyT.cons (i := 8) (o := _) rfl (fun K hK => ?_) ?_
            · go_simp
              replace SOc := hidI (SOc.out.alloc HF.out (.cells #[.int .i64 x.kind, .int .i64 x.n, .string ⟨x.s.toArray⟩, .slice a3 x.keys.length c3, .slice a4 x.l.length c4] 25))
              replace OEc := hidI (OEc.out.bel (bel_alloc _ (.cells #[.int .i64 x.kind, .int .i64 x.n, .string ⟨x.s.toArray⟩, .slice a3 x.keys.length c3, .slice a4 x.l.length c4] 25)))
              replace hBc := Nat.le_trans hBc (bel_alloc _ (.cells #[.int .i64 x.kind, .int .i64 x.n, .string ⟨x.s.toArray⟩, .slice a3 x.keys.length c3, .slice a4 x.l.length c4] 25)).size
              have NBV : Hid ((W9.alloc (.cells #[.int .i64 x.kind, .int .i64 x.n, .string ⟨x.s.toArray⟩, .slice a3 x.keys.length c3, .slice a4 x.l.length c4] 25)).heap[W9.heap.size]? = some (.cells #[.int .i64 x.kind, .int .i64 x.n, .string ⟨x.s.toArray⟩, .slice a3 x.keys.length c3, .slice a4 x.l.length c4] 25)) := hidI (heap_alloc_new _ _)
              refine hK.out _ _ (SOc.out) (fun hHeld2 => ?_)
              clear hK K
              replace hHeld := hHeld2
              clear hHeld2
              try simp only [Act.put, List.setIfInBounds_toArray, List.set_cons_zero, List.set_cons_succ]
              refine wpAnyT_ready (rs := [9]) (by kernel_rfl) (by simp) ?_
              refine AllReadyT.cons (i := 9) (o := _) rfl (fun K hK => ?_) ?_
              · have OEd := hidI OEc.out
                have HY2 := hidI (HY.out.bel OEd.out.below)
                have NBd := hidI NBV.out
                refine step_run (by rfl) (.tmp 67) (.tmp 69) 23 (by rfl) _ _ rfl rfl _ (fun ty => OEd.out.item NBd.out HY2.out hnl (by exact hBc) ty) (fun v9 W9 hR => ?_)
                obtain ⟨ho9, hg9, gV, cV, rfl⟩ := hR
                replace SOc := hidI (hHeld.grown HF.out hg9 (fun g e => (OEd.out.lown g e).1))
                refine hK.out _ _ SOc.out (fun hHeld2 => ?_)
                replace OEc := hidI ho9
                replace hBc := Nat.le_trans (by exact hBc) hg9.size
                clear ho9 hg9 OEd NBd
                clear hK K
                replace hHeld := hHeld2
                clear hHeld2
                try simp only [Act.put, List.setIfInBounds_toArray, List.set_cons_zero, List.set_cons_succ]
                obtain ⟨o0, o1, o2, o3, o4, f0, f1, f2, f3, f4⟩ := hHeld.1.c
                have HE := hidI hHeld
                clear hHeld
                refine wpAnyT_last (i := 11) (o := _) (by kernel_rfl) (by rfl) rfl (fun K hK => ?_)
                go_simp
                refine hK.out _ _ ?_
                clear hK K
                try simp only [Act.put, List.setIfInBounds_toArray, List.set_cons_zero, List.set_cons_succ]
                refine wpAnyT_last (i := 12) (o := _) (by kernel_rfl) (by rfl) rfl (fun K hK => ?_)
                go_simp
                refine hK.out _ _ ?_
                clear hK K
                try simp only [Act.put, List.setIfInBounds_toArray, List.set_cons_zero, List.set_cons_succ]
                refine wpAnyT_last (i := 13) (o := _) (by kernel_rfl) (by rfl) rfl (fun K hK => ?_)
                go_simp
                refine hK.out _ _ ?_
                clear hK K
                try simp only [Act.put, List.setIfInBounds_toArray, List.set_cons_zero, List.set_cons_succ]
                refine wpAnyT_done (by kernel_rfl) ?_ _
                have h9 := OEc.out
                simp only [List.length_map] at h9
                obtain ⟨Z1, Z2, Z3, Z4⟩ := wm_fin OB.out hkey VV.out.2 lk (wm_end HPS.out HE.out h9)
                clear h9
                have ZB := hidI Z4
                have Z := hidI (And.intro Z1 Z2)
                have Z0 := hidI Z3.1
                have O0 := hidI Z3.2
                clear Z1 Z2 Z3 Z4
                obtain ⟨z0, z1, z2, z3, z4, z5, z6, z7, z8, z9⟩ := Z0.out.c
                obtain ⟨o0, o1, o2, o3, o4, -⟩ := O0.out.c
                go_wp2_with fail
                obtain ⟨q0, q1, q2, q3, q4, -⟩ := ZB.out.c
                refine bodyPost_ret (v := .agg #[.int .i64 5, .int .i64 0, .string ⟨#[]⟩, .slice (some ⟨gK, 0, none⟩) (ps.length + 1) cK, .slice (some ⟨gV, 0, none⟩) (ps.length + 1) cV]) ?_ rfl ?_
                · simp only [set5] at q0 q1 q2 q3 q4
                  simp [results, Tryd.results54, go_sem, q0, q1, q2, q3, q4]
                · exact ⟨_, rfl, Z.out.1, Z.out.2⟩
              exact AllReadyT.nil
            exact AllReadyT.nil
          refine AllReadyT.cons (i := 8) (o := _) rfl (fun K hK => ?_) ?_
          · go_simp
            replace SOc := hidI (SOc.out.alloc HF.out (.cells #[.int .i64 x.kind, .int .i64 x.n, .string ⟨x.s.toArray⟩, .slice a3 x.keys.length c3, .slice a4 x.l.length c4] 25))
            replace OEc := hidI (OEc.out.bel (bel_alloc _ (.cells #[.int .i64 x.kind, .int .i64 x.n, .string ⟨x.s.toArray⟩, .slice a3 x.keys.length c3, .slice a4 x.l.length c4] 25)))
            replace hBc := Nat.le_trans hBc (bel_alloc _ (.cells #[.int .i64 x.kind, .int .i64 x.n, .string ⟨x.s.toArray⟩, .slice a3 x.keys.length c3, .slice a4 x.l.length c4] 25)).size
            clear NBK
            have NBK : Hid (((wr.alloc (.cells #[.string ⟨key.toArray⟩] 9)).alloc (.cells #[.int .i64 x.kind, .int .i64 x.n, .string ⟨x.s.toArray⟩, .slice a3 x.keys.length c3, .slice a4 x.l.length c4] 25)).heap[wr.heap.size]? = some (.cells #[.string ⟨key.toArray⟩] 9)) := hidI (h2a _ _ _)
            have NBV : Hid (((wr.alloc (.cells #[.string ⟨key.toArray⟩] 9)).alloc (.cells #[.int .i64 x.kind, .int .i64 x.n, .string ⟨x.s.toArray⟩, .slice a3 x.keys.length c3, .slice a4 x.l.length c4] 25)).heap[wr.heap.size + 1]? = some (.cells #[.int .i64 x.kind, .int .i64 x.n, .string ⟨x.s.toArray⟩, .slice a3 x.keys.length c3, .slice a4 x.l.length c4] 25)) := hidI (h2b _ _ _)
            refine hK.out _ _ (SOc.out.drew HF.out) (fun hHeld2 => ?_)
            clear hK K
            replace hHeld := hHeld2
            clear hHeld2
            try simp only [Act.put, List.setIfInBounds_toArray, List.set_cons_zero, List.set_cons_succ]
            refine wpAnyT_ready (rs := [4]) (by kernel_rfl) (by simp) ?_
            refine AllReadyT.cons (i := 4) (o := _) rfl (fun K hK => ?_) ?_
            · have OEd := hidI OEc.out.drew
              have NBd : Hid ((((wr.alloc (.cells #[.string ⟨key.toArray⟩] 9)).alloc (.cells #[.int .i64 x.kind, .int .i64 x.n, .string ⟨x.s.toArray⟩, .slice a3 x.keys.length c3, .slice a4 x.l.length c4] 25)).drew).heap[wr.heap.size]? = some (.cells #[.string ⟨key.toArray⟩] 9)) := hidI NBK.out
              refine step_run (by rfl) (.tmp 62) (.tmp 64) 22 (by rfl) _ _ rfl rfl _ (fun ty => OEd.out.key NBd.out hnk (by exact hBc) ty) (fun v9 W9 hR => ?_)
              obtain ⟨ho9, hg9, gK, cK, rfl⟩ := hR
              replace SOc := hidI (hHeld.grown HF.out hg9 (fun g e => (OEd.out.kown g e).1))
              refine hK.out _ _ SOc.out (fun hHeld2 => ?_)
              replace NBV := hidI (nb_grown ((by exact NBV.out : (((wr.alloc (.cells #[.string ⟨key.toArray⟩] 9)).alloc (.cells #[.int .i64 x.kind, .int .i64 x.n, .string ⟨x.s.toArray⟩, .slice a3 x.keys.length c3, .slice a4 x.l.length c4] 25)).drew).heap[wr.heap.size + 1]? = some (.cells #[.int .i64 x.kind, .int .i64 x.n, .string ⟨x.s.toArray⟩, .slice a3 x.keys.length c3, .slice a4 x.l.length c4] 25))) hg9 (fun e => by have := LK.out _ e.symm; omega))
              replace OEc := hidI ho9
              replace hBc := Nat.le_trans (by exact hBc) hg9.size
              clear ho9 hg9 OEd NBd
              clear hK K
              replace hHeld := hHeld2
              clear hHeld2
              try simp only [Act.put, List.setIfInBounds_toArray, List.set_cons_zero, List.set_cons_succ]
              refine wpAnyT_take (i := 10) (v := ?_) [11, 12, 13] (oi := _) rfl (by kernel_rfl) (by kernel_rfl) (by kernel_rfl) (by kernel_rfl) (fun _ _ _ h => h) (Or.inl ⟨by rfl, ?_⟩) hHeld ?_
              rotate_left
              · intro wS hSw
                go_simp
                all_goals with_reducible rfl
              simp only [Act.put, List.setIfInBounds_toArray, List.set_cons_zero, List.set_cons_succ]
              refine wpAnyT_ready (rs := [9]) (by kernel_rfl) (by simp) ?_
              refine AllReadyT.cons (i := 9) (o := _) rfl (fun K hK => ?_) ?_
              · have OEd := hidI OEc.out
                have HY2 := hidI (HY.out.bel OEd.out.below)
                have NBd := hidI NBV.out
                refine step_run (by rfl) (.tmp 67) (.tmp 69) 23 (by rfl) _ _ rfl rfl _ (fun ty => OEd.out.item NBd.out HY2.out hnl (by exact hBc) ty) (fun v9 W9 hR => ?_)
                obtain ⟨ho9, hg9, gV, cV, rfl⟩ := hR
                replace SOc := hidI (hHeld.grown HF.out hg9 (fun g e => (OEd.out.lown g e).1))
                refine hK.out _ _ SOc.out (fun hHeld2 => ?_)
                replace OEc := hidI ho9
                replace hBc := Nat.le_trans (by exact hBc) hg9.size
                clear ho9 hg9 OEd NBd
                clear hK K
                replace hHeld := hHeld2
                clear hHeld2
                try simp only [Act.put, List.setIfInBounds_toArray, List.set_cons_zero, List.set_cons_succ]
                obtain ⟨o0, o1, o2, o3, o4, f0, f1, f2, f3, f4⟩ := hHeld.1.c
                have HE := hidI hHeld
                clear hHeld
                refine wpAnyT_last (i := 11) (o := _) (by kernel_rfl) (by rfl) rfl (fun K hK => ?_)
                go_simp
                refine hK.out _ _ ?_
                clear hK K
                try simp only [Act.put, List.setIfInBounds_toArray, List.set_cons_zero, List.set_cons_succ]
                refine wpAnyT_last (i := 12) (o := _) (by kernel_rfl) (by rfl) rfl (fun K hK => ?_)
                go_simp
                refine hK.out _ _ ?_
                clear hK K
                try simp only [Act.put, List.setIfInBounds_toArray, List.set_cons_zero, List.set_cons_succ]
                refine wpAnyT_last (i := 13) (o := _) (by kernel_rfl) (by rfl) rfl (fun K hK => ?_)
                go_simp
                refine hK.out _ _ ?_
                clear hK K
                try simp only [Act.put, List.setIfInBounds_toArray, List.set_cons_zero, List.set_cons_succ]
                refine wpAnyT_done (by kernel_rfl) ?_ _
                have h9 := OEc.out
                simp only [List.length_map] at h9
                obtain ⟨Z1, Z2, Z3, Z4⟩ := wm_fin OB.out hkey VV.out.2 lk (wm_end HPS.out HE.out h9)
                clear h9
                have ZB := hidI Z4
                have Z := hidI (And.intro Z1 Z2)
                have Z0 := hidI Z3.1
                have O0 := hidI Z3.2
                clear Z1 Z2 Z3 Z4
                obtain ⟨z0, z1, z2, z3, z4, z5, z6, z7, z8, z9⟩ := Z0.out.c
                obtain ⟨o0, o1, o2, o3, o4, -⟩ := O0.out.c
                go_wp2_with fail
                obtain ⟨q0, q1, q2, q3, q4, -⟩ := ZB.out.c
                refine bodyPost_ret (v := .agg #[.int .i64 5, .int .i64 0, .string ⟨#[]⟩, .slice (some ⟨gK, 0, none⟩) (ps.length + 1) cK, .slice (some ⟨gV, 0, none⟩) (ps.length + 1) cV]) ?_ rfl ?_
                · simp only [set5] at q0 q1 q2 q3 q4
                  simp [results, Tryd.results54, go_sem, q0, q1, q2, q3, q4]
                · exact ⟨_, rfl, Z.out.1, Z.out.2⟩
              exact AllReadyT.nil
            exact AllReadyT.nil
          exact AllReadyT.nil
        refine AllReadyT.cons (i := 8) (o := _) rfl (fun K hK => ?_) ?_
        · go_simp
          replace SOc := hidI (SOc.out.alloc HF.out (.cells #[.int .i64 x.kind, .int .i64 x.n, .string ⟨x.s.toArray⟩, .slice a3 x.keys.length c3, .slice a4 x.l.length c4] 25))
          replace OEc := hidI (OEc.out.bel (bel_alloc _ (.cells #[.int .i64 x.kind, .int .i64 x.n, .string ⟨x.s.toArray⟩, .slice a3 x.keys.length c3, .slice a4 x.l.length c4] 25)))
          replace hBc := Nat.le_trans hBc (bel_alloc _ (.cells #[.int .i64 x.kind, .int .i64 x.n, .string ⟨x.s.toArray⟩, .slice a3 x.keys.length c3, .slice a4 x.l.length c4] 25)).size
          have NBV : Hid ((wr.alloc (.cells #[.int .i64 x.kind, .int .i64 x.n, .string ⟨x.s.toArray⟩, .slice a3 x.keys.length c3, .slice a4 x.l.length c4] 25)).heap[wr.heap.size]? = some (.cells #[.int .i64 x.kind, .int .i64 x.n, .string ⟨x.s.toArray⟩, .slice a3 x.keys.length c3, .slice a4 x.l.length c4] 25)) := hidI (heap_alloc_new _ _)
          refine hK.out _ _ (SOc.out.drew HF.out) (fun hHeld2 => ?_)
          clear hK K
          replace hHeld := hHeld2
          clear hHeld2
          try simp only [Act.put, List.setIfInBounds_toArray, List.set_cons_zero, List.set_cons_succ]
          refine wpAnyT_ready (rs := [3]) (by kernel_rfl) (by simp) ?_
          refine AllReadyT.cons (i := 3) (o := _) rfl (fun K hK => ?_) ?_
          · go_simp
            replace SOc := hidI (SOc.out.alloc HF.out (.cells #[.string ⟨key.toArray⟩] 9))
            replace OEc := hidI (OEc.out.bel (bel_alloc _ (.cells #[.string ⟨key.toArray⟩] 9)))
            replace hBc := Nat.le_trans hBc (bel_alloc _ (.cells #[.string ⟨key.toArray⟩] 9)).size
            clear NBV
            have NBV : Hid (((wr.alloc (.cells #[.int .i64 x.kind, .int .i64 x.n, .string ⟨x.s.toArray⟩, .slice a3 x.keys.length c3, .slice a4 x.l.length c4] 25)).alloc (.cells #[.string ⟨key.toArray⟩] 9)).heap[wr.heap.size]? = some (.cells #[.int .i64 x.kind, .int .i64 x.n, .string ⟨x.s.toArray⟩, .slice a3 x.keys.length c3, .slice a4 x.l.length c4] 25)) := hidI (h2a _ _ _)
            have NBK : Hid (((wr.alloc (.cells #[.int .i64 x.kind, .int .i64 x.n, .string ⟨x.s.toArray⟩, .slice a3 x.keys.length c3, .slice a4 x.l.length c4] 25)).alloc (.cells #[.string ⟨key.toArray⟩] 9)).heap[wr.heap.size + 1]? = some (.cells #[.string ⟨key.toArray⟩] 9)) := hidI (h2b _ _ _)
            refine hK.out _ _ (SOc.out.drew HF.out) (fun hHeld2 => ?_)
            clear hK K
            replace hHeld := hHeld2
            clear hHeld2
            try simp only [Act.put, List.setIfInBounds_toArray, List.set_cons_zero, List.set_cons_succ]
            refine wpAnyT_ready (rs := [4]) (by kernel_rfl) (by simp) ?_
            refine AllReadyT.cons (i := 4) (o := _) rfl (fun K hK => ?_) ?_
            · have OEd := hidI OEc.out.drew
              have NBd : Hid ((((wr.alloc (.cells #[.int .i64 x.kind, .int .i64 x.n, .string ⟨x.s.toArray⟩, .slice a3 x.keys.length c3, .slice a4 x.l.length c4] 25)).alloc (.cells #[.string ⟨key.toArray⟩] 9)).drew).heap[wr.heap.size + 1]? = some (.cells #[.string ⟨key.toArray⟩] 9)) := hidI NBK.out
              refine step_run (by rfl) (.tmp 62) (.tmp 64) 22 (by rfl) _ _ rfl rfl _ (fun ty => OEd.out.key NBd.out hnk (by exact hBc) ty) (fun v9 W9 hR => ?_)
              obtain ⟨ho9, hg9, gK, cK, rfl⟩ := hR
              replace SOc := hidI (hHeld.grown HF.out hg9 (fun g e => (OEd.out.kown g e).1))
              refine hK.out _ _ SOc.out (fun hHeld2 => ?_)
              replace NBV := hidI (nb_grown ((by exact NBV.out : (((wr.alloc (.cells #[.int .i64 x.kind, .int .i64 x.n, .string ⟨x.s.toArray⟩, .slice a3 x.keys.length c3, .slice a4 x.l.length c4] 25)).alloc (.cells #[.string ⟨key.toArray⟩] 9)).drew).heap[wr.heap.size]? = some (.cells #[.int .i64 x.kind, .int .i64 x.n, .string ⟨x.s.toArray⟩, .slice a3 x.keys.length c3, .slice a4 x.l.length c4] 25))) hg9 (fun e => by have := LK.out _ e.symm; omega))
              replace OEc := hidI ho9
              replace hBc := Nat.le_trans (by exact hBc) hg9.size
              clear ho9 hg9 OEd NBd
              clear hK K
              replace hHeld := hHeld2
              clear hHeld2
              try simp only [Act.put, List.setIfInBounds_toArray, List.set_cons_zero, List.set_cons_succ]
              refine wpAnyT_take (i := 10) (v := ?_) [11, 12, 13] (oi := _) rfl (by kernel_rfl) (by kernel_rfl) (by kernel_rfl) (by kernel_rfl) (fun _ _ _ h => h) (Or.inl ⟨by rfl, ?_⟩) hHeld ?_
              rotate_left
              · intro wS hSw
                go_simp
                all_goals with_reducible rfl
              simp only [Act.put, List.setIfInBounds_toArray, List.set_cons_zero, List.set_cons_succ]
              refine wpAnyT_ready (rs := [9]) (by kernel_rfl) (by simp) ?_
              refine AllReadyT.cons (i := 9) (o := _) rfl (fun K hK => ?_) ?_
              · have OEd := hidI OEc.out
                have HY2 := hidI (HY.out.bel OEd.out.below)
                have NBd := hidI NBV.out
                refine step_run (by rfl) (.tmp 67) (.tmp 69) 23 (by rfl) _ _ rfl rfl _ (fun ty => OEd.out.item NBd.out HY2.out hnl (by exact hBc) ty) (fun v9 W9 hR => ?_)
                obtain ⟨ho9, hg9, gV, cV, rfl⟩ := hR
                replace SOc := hidI (hHeld.grown HF.out hg9 (fun g e => (OEd.out.lown g e).1))
                refine hK.out _ _ SOc.out (fun hHeld2 => ?_)
                replace OEc := hidI ho9
                replace hBc := Nat.le_trans (by exact hBc) hg9.size
                clear ho9 hg9 OEd NBd
                clear hK K
                replace hHeld := hHeld2
                clear hHeld2
                try simp only [Act.put, List.setIfInBounds_toArray, List.set_cons_zero, List.set_cons_succ]
                obtain ⟨o0, o1, o2, o3, o4, f0, f1, f2, f3, f4⟩ := hHeld.1.c
                have HE := hidI hHeld
                clear hHeld
                refine wpAnyT_last (i := 11) (o := _) (by kernel_rfl) (by rfl) rfl (fun K hK => ?_)
                go_simp
                refine hK.out _ _ ?_
                clear hK K
                try simp only [Act.put, List.setIfInBounds_toArray, List.set_cons_zero, List.set_cons_succ]
                refine wpAnyT_last (i := 12) (o := _) (by kernel_rfl) (by rfl) rfl (fun K hK => ?_)
                go_simp
                refine hK.out _ _ ?_
                clear hK K
                try simp only [Act.put, List.setIfInBounds_toArray, List.set_cons_zero, List.set_cons_succ]
                refine wpAnyT_last (i := 13) (o := _) (by kernel_rfl) (by rfl) rfl (fun K hK => ?_)
                go_simp
                refine hK.out _ _ ?_
                clear hK K
                try simp only [Act.put, List.setIfInBounds_toArray, List.set_cons_zero, List.set_cons_succ]
                refine wpAnyT_done (by kernel_rfl) ?_ _
                have h9 := OEc.out
                simp only [List.length_map] at h9
                obtain ⟨Z1, Z2, Z3, Z4⟩ := wm_fin OB.out hkey VV.out.2 lk (wm_end HPS.out HE.out h9)
                clear h9
                have ZB := hidI Z4
                have Z := hidI (And.intro Z1 Z2)
                have Z0 := hidI Z3.1
                have O0 := hidI Z3.2
                clear Z1 Z2 Z3 Z4
                obtain ⟨z0, z1, z2, z3, z4, z5, z6, z7, z8, z9⟩ := Z0.out.c
                obtain ⟨o0, o1, o2, o3, o4, -⟩ := O0.out.c
                go_wp2_with fail
                obtain ⟨q0, q1, q2, q3, q4, -⟩ := ZB.out.c
                refine bodyPost_ret (v := .agg #[.int .i64 5, .int .i64 0, .string ⟨#[]⟩, .slice (some ⟨gK, 0, none⟩) (ps.length + 1) cK, .slice (some ⟨gV, 0, none⟩) (ps.length + 1) cV]) ?_ rfl ?_
                · simp only [set5] at q0 q1 q2 q3 q4
                  simp [results, Tryd.results54, go_sem, q0, q1, q2, q3, q4]
                · exact ⟨_, rfl, Z.out.1, Z.out.2⟩
              exact AllReadyT.nil
            exact AllReadyT.nil
          exact AllReadyT.nil
        exact AllReadyT.nil
theorem rwith_is (w : World) (ok : Nat → Prop) (t x : V) (v xv : Value) (key : List UInt8) (h : In w ok t v) (hx : In w ok x xv) (ho : Ob t) (hl : t.l.length ≤ 100000) (hk : key.length ≤ 9223372036854775807) :
    Calls Tryd.prog 54 #[v, str key, xv] w fun e w' => ∃ r, e = .returned r ∧ In w' (okN ok w.heap.size) (withV t key x) r ∧ Below w.heap.size w w' := by
  obtain ⟨d, h1, h2⟩ := h.two hx
  refine (rwith_at w ok d t x v xv key h1 h2 ho hl hk).mono ?_
  rintro e w' ⟨r, rfl, hr, hb⟩
  exact ⟨r, rfl, hr.is, hb⟩
end Go.Proofs.YtaifciobaapehaaDoor
