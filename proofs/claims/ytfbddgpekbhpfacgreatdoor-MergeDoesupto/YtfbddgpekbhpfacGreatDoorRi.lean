/- What member of json's reader does, if value and With do what is said of them. -/
import Derived.Test.YtfbddgpekbhpfacGreatDoorRh
set_option linter.unusedSimpArgs false
set_option linter.unusedVariables false
namespace Go.Proofs.YtfbddgpekbhpfacGreatDoor
open Go.RowKit

theorem VIs.form {w : World} {ok : Nat → Prop} {d : Nat} {t : V} {v : Value} (h : VIs w ok d t v) : ∃ (a7 a8 : Option Addr) (c7 c8 : Nat), v = (.agg #[.int .i64 t.kind, .int .i64 t.n, .string ⟨t.s.toArray⟩, .slice a7 t.keys.length c7, .slice a8 t.l.length c8]) := by
  match d, h with
  | d + 1, h =>
    obtain ⟨ks, ls, e, h1, h2, h3, h4, h5⟩ := h
    obtain ⟨a1, c1, rfl⟩ := h4.form
    obtain ⟨a2, c2, rfl⟩ := h5.form
    exact ⟨_, _, _, _, e⟩
theorem withV_paired {t : V} {key : List UInt8} {x : V} (hp : pairedV t = true) : pairedV (withV t key x) = true ∧ (withV t key x).l.length ≤ t.l.length + 1 := by
  have hk : t.kind = 5 ∧ t.keys.length = t.l.length := by simpa [pairedV] using hp
  unfold withV
  rw [if_pos hp]
  split
  · rename_i i hi
    have := (idxL_lt hi).1
    simp only [pairedV, Bool.and_eq_true, decide_eq_true_eq, List.length_append, List.length_cons, List.length_take, List.length_drop]
    omega
  · simp only [pairedV, Bool.and_eq_true, decide_eq_true_eq, List.length_append, List.length_cons, List.length_take, List.length_drop]
    omega
theorem memS_of {g : List UInt8 → Option (V × List UInt8)} {t x : V} {key : List UInt8} {st st1 st3 : Option (List UInt8)} (h1 : st.bind quotS = st1.map (fun l => (key, l))) (h3 : (st1.bind (markS 58)).bind g = st3.map (fun l => (x, l))) :
    st.bind (memS g t) = if (memV t key).isSome then none else st3.map (fun l => (withV t key x, l)) := by
  have e : st.bind (memS g t) = (st.bind quotS).bind fun q => (markS 58 q.2).bind fun l => (g l).bind fun p => if (memV t q.1).isSome then none else some (withV t q.1 p.1, p.2) := by
    cases st <;> rfl
  rw [e, h1]
  cases st1 with
  | none =>
    cases st3 with
    | none => simp
    | some l => cases h3
  | some l1 =>
    simp only [Option.map_some, Option.bind_some] at h3 ⊢
    cases hm : markS 58 l1 with
    | none =>
      rw [hm] at h3
      cases st3 with
      | none => simp
      | some l => cases h3
    | some l2 =>
      rw [hm] at h3
      simp only [Option.bind_some] at h3 ⊢
      rw [h3]
      cases st3 <;> simp

set_option maxRecDepth 100000 in
set_option maxHeartbeats 4000000 in
theorem member_st (hW : WithC) (f : Nat) (ih : ValC f) (w : World) (b B : Nat) (s : ByteArray) (st : Option (List UInt8)) (t : V) (a7 a8 : Option Addr) (c7 c8 : Nat) (h : RdSt w b s st) (hG : Glob w) (hb4 : 4 ≤ b) (hf0 : 0 < f) (hlen : (st.getD []).length < f + 1) (hbB : b < B) (hBw : B ≤ w.heap.size)
    (hv : VIs w (fun k => B ≤ k) (f + 1) t (.agg #[.int .i64 t.kind, .int .i64 t.n, .string ⟨t.s.toArray⟩, .slice a7 t.keys.length c7, .slice a8 t.l.length c8])) (hp : pairedV t = true) (htl : t.l.length ≤ 10000) :
    Calls Tryz.prog 66 #[.pointer (some ⟨b, 0, none⟩), (.agg #[.int .i64 t.kind, .int .i64 t.n, .string ⟨t.s.toArray⟩, .slice a7 t.keys.length c7, .slice a8 t.l.length c8])] w fun e w' => ∃ (t' : V) (st' : Option (List UInt8)) (a5 a6 : Option Addr) (c5 c6 : Nat),
      e = .returned (.agg #[.int .i64 t'.kind, .int .i64 t'.n, .string ⟨t'.s.toArray⟩, .slice a5 t'.keys.length c5, .slice a6 t'.l.length c6]) ∧ VIs w' (fun k => B ≤ k) (f + 1) t' (.agg #[.int .i64 t'.kind, .int .i64 t'.n, .string ⟨t'.s.toArray⟩, .slice a5 t'.keys.length c5, .slice a6 t'.l.length c6]) ∧ pairedV t' = true ∧ t'.l.length ≤ t.l.length + 1 ∧
      st.bind (memS (valS f) t) = st'.map (fun l => (t', l)) ∧ RdSt w' b s st' ∧ w.grownBy w' (some b) := by
  have H : Hid (RdSt w b s st ∧ Glob w) := ⟨h, hG⟩
  have HV := hidI hv
  have IH := hidI ih
  have HW := hidI hW
  have HP := hidI hp
  have hbl := h.lt
  clear h hG hv ih hW hp
  go_enter Tryz.func66, Tryz.ntmps66
  go_wp2_with fail
  refine (quoted_st _ b s st (by exact H.out.1.grown (gb_alloc (World.grownBy_alloc w _ none) _) (by simp))).mono ?_
  rintro e w1 ⟨key, st1, rfl, hq, hkl, h1, hg1⟩
  have K1 : Hid (st.bind quotS = st1.map (fun l => (key, l)) ∧ RdSt w1 b s st1 ∧ w.grownBy w1 (some b) ∧ BoxIs w1 w.heap.size (.int .i64 t.kind) (.int .i64 t.n) (.string ⟨t.s.toArray⟩) (.slice a7 t.keys.length c7) (.slice a8 t.l.length c8) ∧ BoxIs w1 (w.heap.size + 1) (.int .i64 0) (.int .i64 0) (.string ⟨#[]⟩) (.slice none 0 0) (.slice none 0 0)) :=
    ⟨hq, h1, gb_trans (gb_alloc (gb_alloc (gb_refl _ _) _) _) hg1, BoxIs.grown (h2a w _ _) hg1 (by simp; omega), BoxIs.grown (h2b w _ _) hg1 (by simp; omega)⟩
  clear hq h1 hg1
  go_wp2_with fail
  refine (need_st _ b s st1 58 58 rfl (by decide) (by exact K1.out.2.1)).mono ?_
  rintro e w2 ⟨rfl, h2, hg2⟩
  have K2 : Hid (RdSt w2 b s (st1.bind (markS 58)) ∧ w.grownBy w2 (some b) ∧ BoxIs w2 w.heap.size (.int .i64 t.kind) (.int .i64 t.n) (.string ⟨t.s.toArray⟩) (.slice a7 t.keys.length c7) (.slice a8 t.l.length c8) ∧ BoxIs w2 (w.heap.size + 1) (.int .i64 0) (.int .i64 0) (.string ⟨#[]⟩) (.slice none 0 0) (.slice none 0 0) ∧ Glob w2) :=
    ⟨h2, gb_trans K1.out.2.2.1 hg2, K1.out.2.2.2.1.grown hg2 (by simp; omega), K1.out.2.2.2.2.grown hg2 (by simp; omega), H.out.2.grown (gb_trans K1.out.2.2.1 hg2) (by intro k hk; cases hk; exact hb4)⟩
  have hl2 : Hid (((st1.bind (markS 58)).getD []).length < f) := by
    show _ < _
    cases st1 with
    | none => exact hf0
    | some l1 =>
      cases hm : markS 58 l1 with
      | none => simp only [Option.bind_some, hm]; exact hf0
      | some l2 =>
        cases st with
        | none => have := K1.out.1; cases this
        | some l0 =>
          have h9 := quotS_len (show quotS l0 = some (key, l1) from K1.out.1)
          have := markS_len hm
          simp only [Option.bind_some, hm, Option.getD_some] at hlen ⊢
          simp only at h9
          omega
  clear h2 hg2
  go_wp2_with fail
  refine (IH.out _ b s _ (by exact K2.out.1) (by exact K2.out.2.2.2.2) hb4 hl2.out).mono ?_
  rintro e w3 ⟨x, st3, a5, a6, c5, c6, rfl, hx, hst3, h3, hg3⟩
  have K3 : Hid ((st1.bind (markS 58)).bind (valS f) = st3.map (fun l => (x, l)) ∧ RdSt w3 b s st3 ∧ w.grownBy w3 (some b) ∧ BoxIs w3 w.heap.size (.int .i64 t.kind) (.int .i64 t.n) (.string ⟨t.s.toArray⟩) (.slice a7 t.keys.length c7) (.slice a8 t.l.length c8) ∧ BoxIs w3 (w.heap.size + 1) (.int .i64 0) (.int .i64 0) (.string ⟨#[]⟩) (.slice none 0 0) (.slice none 0 0) ∧
      VIs w3 (fun k => B ≤ k ∧ k ≠ w.heap.size + 1) f x (.agg #[.int .i64 x.kind, .int .i64 x.n, .string ⟨x.s.toArray⟩, .slice a5 x.keys.length c5, .slice a6 x.l.length c6]) ∧ VIs w3 (fun k => B ≤ k ∧ k ≠ w.heap.size + 1) (f + 1) t (.agg #[.int .i64 t.kind, .int .i64 t.n, .string ⟨t.s.toArray⟩, .slice a7 t.keys.length c7, .slice a8 t.l.length c8])) :=
    ⟨hst3, h3, gb_trans K2.out.2.1 hg3, K2.out.2.2.1.grown hg3 (by simp; omega), K2.out.2.2.2.1.grown hg3 (by simp; omega), hx.weak (fun k hk => ⟨Nat.le_trans (Nat.le_trans hBw K2.out.2.1.size) hk, by have := K2.out.2.2.2.1.lt; omega⟩), (HV.out.below.weak (fun k hk => ⟨hk.1, by omega⟩)).grown (gb_trans K2.out.2.1 hg3) (fun k hk e => by cases e; omega)⟩
  have hsz3 : w.heap.size + 1 < w3.heap.size := K3.out.2.2.2.2.1.lt
  obtain ⟨p0, p1, p2, p3, p4, -⟩ := K3.out.2.2.2.1.c
  clear hst3 h3 hg3 hx
  have r0 : ∀ o, (w3.alloc o).cell? ⟨w.heap.size, 0, none⟩ = some (.int .i64 t.kind) := fun o => (K3.out.2.2.2.1.grown (World.grownBy_alloc w3 o none) (by simp)).c.1
  have r1 : ∀ o, (w3.alloc o).cell? ⟨w.heap.size, 1, none⟩ = some (.int .i64 t.n) := fun o => (K3.out.2.2.2.1.grown (World.grownBy_alloc w3 o none) (by simp)).c.2.1
  have r2 : ∀ o, (w3.alloc o).cell? ⟨w.heap.size, 2, none⟩ = some (.string ⟨t.s.toArray⟩) := fun o => (K3.out.2.2.2.1.grown (World.grownBy_alloc w3 o none) (by simp)).c.2.2.1
  have r3 : ∀ o, (w3.alloc o).cell? ⟨w.heap.size, 3, none⟩ = some (.slice a7 t.keys.length c7) := fun o => (K3.out.2.2.2.1.grown (World.grownBy_alloc w3 o none) (by simp)).c.2.2.2.1
  have r4 : ∀ o, (w3.alloc o).cell? ⟨w.heap.size, 4, none⟩ = some (.slice a8 t.l.length c8) := fun o => (K3.out.2.2.2.1.grown (World.grownBy_alloc w3 o none) (by simp)).c.2.2.2.2.1
  go_wp2_with fail
  refine (member_at _ (fun k => B ≤ k ∧ k ≠ w.heap.size + 1) (f + 1) t _ key (by exact K3.out.2.2.2.2.2.2.bel (bel_alloc _ _))).mono ?_
  rintro e w4 ⟨xm, bm, rfl, hb4', hmem⟩
  have B4 : Hid (Below w3.heap.size w3 w4) := bel_trans (bel_alloc _ _) hb4'
  have bxX : Hid (BoxIs w4 w3.heap.size (.int .i64 x.kind) (.int .i64 x.n) (.string ⟨x.s.toArray⟩) (.slice a5 x.keys.length c5) (.slice a6 x.l.length c6)) := box_bel hb4' (heap_alloc_new w3 _)
  have hsz4 : w3.heap.size < w4.heap.size := bxX.out.lt
  clear hb4' p0 p1 p2 p3 p4 r0 r1 r2 r3 r4
  have bxV : Hid (∀ o, BoxIs (w4.alloc o) w.heap.size (.int .i64 t.kind) (.int .i64 t.n) (.string ⟨t.s.toArray⟩) (.slice a7 t.keys.length c7) (.slice a8 t.l.length c8) ∧ BoxIs (w4.alloc o) w3.heap.size (.int .i64 x.kind) (.int .i64 x.n) (.string ⟨x.s.toArray⟩) (.slice a5 x.keys.length c5) (.slice a6 x.l.length c6) ∧ BoxIs (w4.alloc o) (w.heap.size + 1) (.int .i64 0) (.int .i64 0) (.string ⟨#[]⟩) (.slice none 0 0) (.slice none 0 0)) :=
    fun o => ⟨box_bel (bel_trans B4.out (bel_alloc w4 o)) K3.out.2.2.2.1, box_bel (bel_alloc w4 o) bxX.out, box_bel (bel_trans B4.out (bel_alloc w4 o)) K3.out.2.2.2.2.1⟩
  have s0 : ∀ o, (w4.alloc o).cell? ⟨w.heap.size, 0, none⟩ = some (.int .i64 t.kind) := fun o => (bxV.out o).1.c.1
  have s1 : ∀ o, (w4.alloc o).cell? ⟨w.heap.size, 1, none⟩ = some (.int .i64 t.n) := fun o => (bxV.out o).1.c.2.1
  have s2 : ∀ o, (w4.alloc o).cell? ⟨w.heap.size, 2, none⟩ = some (.string ⟨t.s.toArray⟩) := fun o => (bxV.out o).1.c.2.2.1
  have s3 : ∀ o, (w4.alloc o).cell? ⟨w.heap.size, 3, none⟩ = some (.slice a7 t.keys.length c7) := fun o => (bxV.out o).1.c.2.2.2.1
  have s4 : ∀ o, (w4.alloc o).cell? ⟨w.heap.size, 4, none⟩ = some (.slice a8 t.l.length c8) := fun o => (bxV.out o).1.c.2.2.2.2.1
  have v0 : ∀ o, (w4.alloc o).cell? ⟨w3.heap.size, 0, none⟩ = some (.int .i64 x.kind) := fun o => (bxV.out o).2.1.c.1
  have v1 : ∀ o, (w4.alloc o).cell? ⟨w3.heap.size, 1, none⟩ = some (.int .i64 x.n) := fun o => (bxV.out o).2.1.c.2.1
  have v2 : ∀ o, (w4.alloc o).cell? ⟨w3.heap.size, 2, none⟩ = some (.string ⟨x.s.toArray⟩) := fun o => (bxV.out o).2.1.c.2.2.1
  have v3 : ∀ o, (w4.alloc o).cell? ⟨w3.heap.size, 3, none⟩ = some (.slice a5 x.keys.length c5) := fun o => (bxV.out o).2.1.c.2.2.2.1
  have v4 : ∀ o, (w4.alloc o).cell? ⟨w3.heap.size, 4, none⟩ = some (.slice a6 x.l.length c6) := fun o => (bxV.out o).2.1.c.2.2.2.2.1
  have hws : Hid (st.bind (memS (valS f) t) = if (memV t key).isSome then none else st3.map (fun l => (withV t key x, l))) := memS_of K1.out.1 K3.out.1
  have hklm : key.length ≤ maxLen := by unfold maxLen; omega
  cases hmv : memV t key with
  | none =>
    rw [hmv] at hmem hws
    obtain ⟨rfl, rfl⟩ := hmem
    unfold leaf str
    go_wp2_with fail
    refine (HW.out _ (fun k => B ≤ k ∧ k ≠ w.heap.size + 1) f t x _ _ key (by exact K3.out.2.2.2.2.2.2.bel (bel_trans B4.out (bel_alloc _ _))) (by exact K3.out.2.2.2.2.2.1.bel (bel_trans B4.out (bel_alloc _ _))) HP.out (by omega) hklm).mono ?_
    rintro e w5 ⟨r, rfl, hr5, hb5⟩
    obtain ⟨e5, e6, d5, d6, rfl⟩ := hr5.form
    have G5 : Hid (VIs w5 (fun k => B ≤ k ∧ k ≠ w.heap.size + 1) (f + 1) (withV t key x) (.agg #[.int .i64 (withV t key x).kind, .int .i64 (withV t key x).n, .string ⟨(withV t key x).s.toArray⟩, .slice e5 (withV t key x).keys.length d5, .slice e6 (withV t key x).l.length d6]) ∧ w.grownBy w5 (some b) ∧ RdSt w5 b s st3 ∧ BoxIs w5 (w.heap.size + 1) (.int .i64 0) (.int .i64 0) (.string ⟨#[]⟩) (.slice none 0 0) (.slice none 0 0)) := by
      refine ⟨hr5.weak fun k hk => ?_, ?_, ?_, ?_⟩
      · rcases hk with hk | hk
        · exact hk
        · have := K3.out.2.2.1.size
          simp at hk
          exact ⟨by omega, by omega⟩
      · exact gb_own (gb_own (gb_own K3.out.2.2.1 (gb_below (r := none) B4.out) (by simp)) (World.grownBy_alloc w4 _ none) (by simp)) (gb_below (r := none) hb5) (by simp)
      · exact K3.out.2.1.of_heap (((gb_trans (gb_trans (gb_below (r := none) B4.out) (World.grownBy_alloc w4 _ none)) (gb_below hb5)).block b K3.out.2.1.lt (by simp)))
      · exact box_bel hb5 (bxV.out _).2.2
    clear hr5 hb5
    obtain ⟨x0, x1, x2, x3, x4, y0, y1, y2, y3, y4⟩ := G5.out.2.2.2.c
    obtain ⟨z0, z1, z2, z3, z4, -⟩ := (G5.out.2.2.2.set (.int .i64 (withV t key x).kind) (.int .i64 (withV t key x).n) (.string ⟨(withV t key x).s.toArray⟩) (.slice e5 (withV t key x).keys.length d5) (.slice e6 (withV t key x).l.length d6)).c
    have Z : Hid (_ ∧ _ ∧ _ ∧ _ ∧ _) := ⟨z0, z1, z2, z3, z4⟩
    clear z0 z1 z2 z3 z4
    go_wp2_with fail
    obtain ⟨z0, z1, z2, z3, z4⟩ := Z.out
    refine bodyPost_ret (v := (.agg #[.int .i64 (withV t key x).kind, .int .i64 (withV t key x).n, .string ⟨(withV t key x).s.toArray⟩, .slice e5 (withV t key x).keys.length d5, .slice e6 (withV t key x).l.length d6])) ?_ rfl ?_
    · simp only [set5] at z0 z1 z2 z3 z4
      simp [results, Tryz.results66, go_sem, z0, z1, z2, z3, z4]
    · obtain ⟨g1, g2, g3, g4⟩ := G5.out
      have g5 := set5_gb w5 (w.heap.size + 1) (.int .i64 (withV t key x).kind) (.int .i64 (withV t key x).n) (.string ⟨(withV t key x).s.toArray⟩) (.slice e5 (withV t key x).keys.length d5) (.slice e6 (withV t key x).l.length d6)
      have hwp := withV_paired (key := key) (x := x) HP.out
      refine ⟨withV t key x, st3, e5, e6, d5, d6, rfl, ?_, hwp.1, hwp.2, ?_, g3.of_heap (g5.block b g3.lt (by simp; omega)), gb_own g2 g5 (by intro k hk; cases hk; omega)⟩
      · exact (g1.grown g5 (fun k hk e => by simp at e; exact hk.2 e)).weak fun k hk => hk.1
      · rw [hws.out]; rfl
  | some y =>
    rw [hmv] at hmem hws
    obtain ⟨rfl, hy⟩ := hmem
    obtain ⟨i5, i6, j5, j6, rfl⟩ := hy.form
    clear hy
    go_wp2_with fail
    refine (fail_st _ b s st3 (by exact K3.out.2.1.of_heap (((gb_trans (gb_below (r := none) B4.out) (World.grownBy_alloc w4 _ none))).block b K3.out.2.1.lt (by simp)))).mono ?_
    rintro e w6 ⟨rfl, h6, hg6⟩
    have G6 : Hid (RdSt w6 b s none ∧ w.grownBy w6 (some b) ∧ VIs w6 (fun k => B ≤ k ∧ k ≠ w.heap.size + 1) (f + 1) t (.agg #[.int .i64 t.kind, .int .i64 t.n, .string ⟨t.s.toArray⟩, .slice a7 t.keys.length c7, .slice a8 t.l.length c8]) ∧ VIs w6 (fun k => B ≤ k ∧ k ≠ w.heap.size + 1) f x (.agg #[.int .i64 x.kind, .int .i64 x.n, .string ⟨x.s.toArray⟩, .slice a5 x.keys.length c5, .slice a6 x.l.length c6]) ∧ BoxIs w6 (w.heap.size + 1) (.int .i64 0) (.int .i64 0) (.string ⟨#[]⟩) (.slice none 0 0) (.slice none 0 0) ∧ w.heap.size ≤ w6.heap.size) := by
      have ga : w3.grownBy w6 (some b) := gb_trans (gb_trans (gb_below B4.out) (World.grownBy_alloc w4 _ _)) hg6
      exact ⟨h6, gb_trans K3.out.2.2.1 ga, K3.out.2.2.2.2.2.2.grown ga (fun k hk e => by cases e; omega), K3.out.2.2.2.2.2.1.grown ga (fun k hk e => by cases e; omega), K3.out.2.2.2.2.1.grown ga (by simp; omega), Nat.le_trans K3.out.2.2.1.size ga.size⟩
    have t0 := (bxV.out (.cells #[.int .i64 y.kind, .int .i64 y.n, .string ⟨y.s.toArray⟩, .slice i5 y.keys.length j5, .slice i6 y.l.length j6] 25))
    obtain ⟨s0', s1', s2', s3', s4', -⟩ := (t0.1.grown hg6 (by simp; omega)).c
    obtain ⟨v0', v1', v2', v3', v4', -⟩ := (t0.2.1.grown hg6 (by simp; have := K3.out.2.2.1.size; omega)).c
    have hsz6 := hg6.size
    clear h6 hg6 t0
    go_wp2_with fail
    refine (HW.out _ (fun k => B ≤ k ∧ k ≠ w.heap.size + 1) f t x _ _ key (by exact G6.out.2.2.1) (by exact G6.out.2.2.2.1) HP.out (by omega) hklm).mono ?_
    rintro e w5 ⟨r, rfl, hr5, hb5⟩
    obtain ⟨e5, e6, d5, d6, rfl⟩ := hr5.form
    have G5 : Hid (VIs w5 (fun k => B ≤ k ∧ k ≠ w.heap.size + 1) (f + 1) (withV t key x) (.agg #[.int .i64 (withV t key x).kind, .int .i64 (withV t key x).n, .string ⟨(withV t key x).s.toArray⟩, .slice e5 (withV t key x).keys.length d5, .slice e6 (withV t key x).l.length d6]) ∧ w.grownBy w5 (some b) ∧ RdSt w5 b s (none : Option (List UInt8)) ∧ BoxIs w5 (w.heap.size + 1) (.int .i64 0) (.int .i64 0) (.string ⟨#[]⟩) (.slice none 0 0) (.slice none 0 0)) := by
      refine ⟨hr5.weak fun k hk => ?_, ?_, ?_, ?_⟩
      · rcases hk with hk | hk
        · exact hk
        · have := G6.out.2.2.2.2.2
          exact ⟨by omega, by have := G6.out.2.2.2.2.1.lt; omega⟩
      · exact gb_own (gb_trans G6.out.2.1 (gb_refl _ _)) (gb_below (r := none) hb5) (by simp)
      · exact G6.out.1.of_heap ((gb_below (r := none) hb5).block b G6.out.1.lt (by simp))
      · exact box_bel hb5 G6.out.2.2.2.2.1
    clear hr5 hb5
    obtain ⟨x0, x1, x2, x3, x4, y0, y1, y2, y3, y4⟩ := G5.out.2.2.2.c
    obtain ⟨z0, z1, z2, z3, z4, -⟩ := (G5.out.2.2.2.set (.int .i64 (withV t key x).kind) (.int .i64 (withV t key x).n) (.string ⟨(withV t key x).s.toArray⟩) (.slice e5 (withV t key x).keys.length d5) (.slice e6 (withV t key x).l.length d6)).c
    have Z : Hid (_ ∧ _ ∧ _ ∧ _ ∧ _) := ⟨z0, z1, z2, z3, z4⟩
    clear z0 z1 z2 z3 z4
    go_wp2_with fail
    obtain ⟨z0, z1, z2, z3, z4⟩ := Z.out
    refine bodyPost_ret (v := (.agg #[.int .i64 (withV t key x).kind, .int .i64 (withV t key x).n, .string ⟨(withV t key x).s.toArray⟩, .slice e5 (withV t key x).keys.length d5, .slice e6 (withV t key x).l.length d6])) ?_ rfl ?_
    · simp only [set5] at z0 z1 z2 z3 z4
      simp [results, Tryz.results66, go_sem, z0, z1, z2, z3, z4]
    · obtain ⟨g1, g2, g3, g4⟩ := G5.out
      have g5 := set5_gb w5 (w.heap.size + 1) (.int .i64 (withV t key x).kind) (.int .i64 (withV t key x).n) (.string ⟨(withV t key x).s.toArray⟩) (.slice e5 (withV t key x).keys.length d5) (.slice e6 (withV t key x).l.length d6)
      have hwp := withV_paired (key := key) (x := x) HP.out
      refine ⟨withV t key x, (none : Option (List UInt8)), e5, e6, d5, d6, rfl, ?_, hwp.1, hwp.2, ?_, g3.of_heap (g5.block b g3.lt (by simp; omega)), gb_own g2 g5 (by intro k hk; cases hk; omega)⟩
      · exact (g1.grown g5 (fun k hk e => by simp at e; exact hk.2 e)).weak fun k hk => hk.1
      · rw [hws.out]; rfl
end Go.Proofs.YtfbddgpekbhpfacGreatDoor
