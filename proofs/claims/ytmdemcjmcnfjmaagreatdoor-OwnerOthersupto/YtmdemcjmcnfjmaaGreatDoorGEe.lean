/- Whatever it is handed, OwnerOthers answers true and leaves all as it was.
   Its conditions: what it is handed is of bulk at most 1048576 (values and letters); the listed package-level variables hold what the program's text lays (the card ties them, over a pruned copy of the project). -/
import Derived.Test.YtmdemcjmcnfjmaaGreatDoorGRh
import Derived.Test.YtmdemcjmcnfjmaaGreatDoorGSm
import Derived.Test.YtmdemcjmcnfjmaaGreatDoorGc
import Derived.Test.YtmdemcjmcnfjmaaGreatDoorTp
import Derived.Test.YtmdemcjmcnfjmaaGreatDoorGNe
import Derived.Test.YtmdemcjmcnfjmaaGreatDoorKi
import Derived.Test.YtmdemcjmcnfjmaaGreatDoorEc
/- What member of json's reader does, if value and With do what is said of them. -/
set_option linter.unusedSimpArgs false
set_option linter.unusedVariables false
namespace Go.Proofs.YtmdemcjmcnfjmaaGreatDoor
open Go.RowKit

theorem VIs.form {w : World} {ok : Nat → Prop} {d : Nat} {t : V} {v : Value} (h : VIs w ok d t v) : ∃ (a7 a8 : Option Addr) (c7 c8 : Nat), v = (.agg #[.int .i64 t.kind, .int .i64 t.n, .string ⟨t.s.toArray⟩, .slice a7 t.keys.length c7, .slice a8 t.l.length c8]) := by
  match d, h with
  | d + 1, h =>
    obtain ⟨ks, ls, e, h1, h2, h3, h4, h5⟩ := h
    obtain ⟨a1, c1, rfl⟩ := h4.form
    obtain ⟨a2, c2, rfl⟩ := h5.form
    exact ⟨_, _, _, _, e⟩
theorem withV_paired {t : V} {key : List UInt8} {x : V} (hp : pairedV t = true) : pairedV (withV t key x) = true ∧ (withV t key x).l.length ≤ t.l.length + 1 := by
  have hk : t.kind = 5 ∧ t.keys.length = t.l.length := by simpa [pairedV] using hp
  unfold withV
  rw [if_pos hp]
  split
  · rename_i i hi
    have := (idxL_lt hi).1
    simp only [pairedV, Bool.and_eq_true, decide_eq_true_eq, List.length_append, List.length_cons, List.length_take, List.length_drop]
    omega
  · simp only [pairedV, Bool.and_eq_true, decide_eq_true_eq, List.length_append, List.length_cons, List.length_take, List.length_drop]
    omega
theorem memS_of {g : List UInt8 → Option (V × List UInt8)} {t x : V} {key : List UInt8} {st st1 st3 : Option (List UInt8)} (h1 : st.bind quotS = st1.map (fun l => (key, l))) (h3 : (st1.bind (markS 58)).bind g = st3.map (fun l => (x, l))) :
    st.bind (memS g t) = if (memV t key).isSome then none else st3.map (fun l => (withV t key x, l)) := by
  have e : st.bind (memS g t) = (st.bind quotS).bind fun q => (markS 58 q.2).bind fun l => (g l).bind fun p => if (memV t q.1).isSome then none else some (withV t q.1 p.1, p.2) := by
    cases st <;> rfl
  rw [e, h1]
  cases st1 with
  | none =>
    cases st3 with
    | none => simp
    | some l => cases h3
  | some l1 =>
    simp only [Option.map_some, Option.bind_some] at h3 ⊢
    cases hm : markS 58 l1 with
    | none =>
      rw [hm] at h3
      cases st3 with
      | none => simp
      | some l => cases h3
    | some l2 =>
      rw [hm] at h3
      simp only [Option.bind_some] at h3 ⊢
      rw [h3]
      cases st3 <;> simp

set_option maxRecDepth 100000 in
set_option maxHeartbeats 4000000 in
theorem member_st (hW : WithC) (f : Nat) (ih : ValC f) (w : World) (b B : Nat) (s : ByteArray) (st : Option (List UInt8)) (t : V) (a7 a8 : Option Addr) (c7 c8 : Nat) (h : RdSt w b s st) (hG : Glob w) (hb4 : 6 ≤ b) (hf0 : 0 < f) (hlen : (st.getD []).length < f + 1) (hbB : b < B) (hBw : B ≤ w.heap.size)
    (hv : VIs w (fun k => B ≤ k) (f + 1) t (.agg #[.int .i64 t.kind, .int .i64 t.n, .string ⟨t.s.toArray⟩, .slice a7 t.keys.length c7, .slice a8 t.l.length c8])) (hp : pairedV t = true) (htl : t.l.length ≤ 10000) :
    Calls Tryz.prog 134 #[.pointer (some ⟨b, 0, none⟩), (.agg #[.int .i64 t.kind, .int .i64 t.n, .string ⟨t.s.toArray⟩, .slice a7 t.keys.length c7, .slice a8 t.l.length c8])] w fun e w' => ∃ (t' : V) (st' : Option (List UInt8)) (a5 a6 : Option Addr) (c5 c6 : Nat),
      e = .returned (.agg #[.int .i64 t'.kind, .int .i64 t'.n, .string ⟨t'.s.toArray⟩, .slice a5 t'.keys.length c5, .slice a6 t'.l.length c6]) ∧ VIs w' (fun k => B ≤ k) (f + 1) t' (.agg #[.int .i64 t'.kind, .int .i64 t'.n, .string ⟨t'.s.toArray⟩, .slice a5 t'.keys.length c5, .slice a6 t'.l.length c6]) ∧ pairedV t' = true ∧ t'.l.length ≤ t.l.length + 1 ∧
      st.bind (memS (valS f) t) = st'.map (fun l => (t', l)) ∧ RdSt w' b s st' ∧ w.grownBy w' (some b) := by
  have H : Hid (RdSt w b s st ∧ Glob w) := ⟨h, hG⟩
  have HV := hidI hv
  have IH := hidI ih
  have HW := hidI hW
  have HP := hidI hp
  have hbl := h.lt
  clear h hG hv ih hW hp
  go_enter Tryz.func134, Tryz.ntmps134
  go_wp2_with fail
  refine (quoted_st _ b s st (by exact H.out.1.grown (gb_alloc (World.grownBy_alloc w _ none) _) (by simp))).mono ?_
  rintro e w1 ⟨key, st1, rfl, hq, hkl, h1, hg1⟩
  have K1 : Hid (st.bind quotS = st1.map (fun l => (key, l)) ∧ RdSt w1 b s st1 ∧ w.grownBy w1 (some b) ∧ BoxIs w1 w.heap.size (.int .i64 t.kind) (.int .i64 t.n) (.string ⟨t.s.toArray⟩) (.slice a7 t.keys.length c7) (.slice a8 t.l.length c8) ∧ BoxIs w1 (w.heap.size + 1) (.int .i64 0) (.int .i64 0) (.string ⟨#[]⟩) (.slice none 0 0) (.slice none 0 0)) :=
    ⟨hq, h1, gb_trans (gb_alloc (gb_alloc (gb_refl _ _) _) _) hg1, BoxIs.grown (h2a w _ _) hg1 (by simp; omega), BoxIs.grown (h2b w _ _) hg1 (by simp; omega)⟩
  clear hq h1 hg1
  go_wp2_with fail
  refine (need_st _ b s st1 58 58 rfl (by decide) (by exact K1.out.2.1)).mono ?_
  rintro e w2 ⟨rfl, h2, hg2⟩
  have K2 : Hid (RdSt w2 b s (st1.bind (markS 58)) ∧ w.grownBy w2 (some b) ∧ BoxIs w2 w.heap.size (.int .i64 t.kind) (.int .i64 t.n) (.string ⟨t.s.toArray⟩) (.slice a7 t.keys.length c7) (.slice a8 t.l.length c8) ∧ BoxIs w2 (w.heap.size + 1) (.int .i64 0) (.int .i64 0) (.string ⟨#[]⟩) (.slice none 0 0) (.slice none 0 0) ∧ Glob w2) :=
    ⟨h2, gb_trans K1.out.2.2.1 hg2, K1.out.2.2.2.1.grown hg2 (by simp; omega), K1.out.2.2.2.2.grown hg2 (by simp; omega), H.out.2.grown (gb_trans K1.out.2.2.1 hg2) (by intro k hk; cases hk; exact hb4)⟩
  have hl2 : Hid (((st1.bind (markS 58)).getD []).length < f) := by
    show _ < _
    cases st1 with
    | none => exact hf0
    | some l1 =>
      cases hm : markS 58 l1 with
      | none => simp only [Option.bind_some, hm]; exact hf0
      | some l2 =>
        cases st with
        | none => have := K1.out.1; cases this
        | some l0 =>
          have h9 := quotS_len (show quotS l0 = some (key, l1) from K1.out.1)
          have := markS_len hm
          simp only [Option.bind_some, hm, Option.getD_some] at hlen ⊢
          simp only at h9
          omega
  clear h2 hg2
  go_wp2_with fail
  refine (IH.out _ b s _ (by exact K2.out.1) (by exact K2.out.2.2.2.2) hb4 hl2.out).mono ?_
  rintro e w3 ⟨x, st3, a5, a6, c5, c6, rfl, hx, hst3, h3, hg3⟩
  have K3 : Hid ((st1.bind (markS 58)).bind (valS f) = st3.map (fun l => (x, l)) ∧ RdSt w3 b s st3 ∧ w.grownBy w3 (some b) ∧ BoxIs w3 w.heap.size (.int .i64 t.kind) (.int .i64 t.n) (.string ⟨t.s.toArray⟩) (.slice a7 t.keys.length c7) (.slice a8 t.l.length c8) ∧ BoxIs w3 (w.heap.size + 1) (.int .i64 0) (.int .i64 0) (.string ⟨#[]⟩) (.slice none 0 0) (.slice none 0 0) ∧
      VIs w3 (fun k => B ≤ k ∧ k ≠ w.heap.size + 1) f x (.agg #[.int .i64 x.kind, .int .i64 x.n, .string ⟨x.s.toArray⟩, .slice a5 x.keys.length c5, .slice a6 x.l.length c6]) ∧ VIs w3 (fun k => B ≤ k ∧ k ≠ w.heap.size + 1) (f + 1) t (.agg #[.int .i64 t.kind, .int .i64 t.n, .string ⟨t.s.toArray⟩, .slice a7 t.keys.length c7, .slice a8 t.l.length c8])) :=
    ⟨hst3, h3, gb_trans K2.out.2.1 hg3, K2.out.2.2.1.grown hg3 (by simp; omega), K2.out.2.2.2.1.grown hg3 (by simp; omega), hx.weak (fun k hk => ⟨Nat.le_trans (Nat.le_trans hBw K2.out.2.1.size) hk, by have := K2.out.2.2.2.1.lt; omega⟩), (HV.out.below.weak (fun k hk => ⟨hk.1, by omega⟩)).grown (gb_trans K2.out.2.1 hg3) (fun k hk e => by cases e; omega)⟩
  have hsz3 : w.heap.size + 1 < w3.heap.size := K3.out.2.2.2.2.1.lt
  obtain ⟨p0, p1, p2, p3, p4, -⟩ := K3.out.2.2.2.1.c
  clear hst3 h3 hg3 hx
  have r0 : ∀ o, (w3.alloc o).cell? ⟨w.heap.size, 0, none⟩ = some (.int .i64 t.kind) := fun o => (K3.out.2.2.2.1.grown (World.grownBy_alloc w3 o none) (by simp)).c.1
  have r1 : ∀ o, (w3.alloc o).cell? ⟨w.heap.size, 1, none⟩ = some (.int .i64 t.n) := fun o => (K3.out.2.2.2.1.grown (World.grownBy_alloc w3 o none) (by simp)).c.2.1
  have r2 : ∀ o, (w3.alloc o).cell? ⟨w.heap.size, 2, none⟩ = some (.string ⟨t.s.toArray⟩) := fun o => (K3.out.2.2.2.1.grown (World.grownBy_alloc w3 o none) (by simp)).c.2.2.1
  have r3 : ∀ o, (w3.alloc o).cell? ⟨w.heap.size, 3, none⟩ = some (.slice a7 t.keys.length c7) := fun o => (K3.out.2.2.2.1.grown (World.grownBy_alloc w3 o none) (by simp)).c.2.2.2.1
  have r4 : ∀ o, (w3.alloc o).cell? ⟨w.heap.size, 4, none⟩ = some (.slice a8 t.l.length c8) := fun o => (K3.out.2.2.2.1.grown (World.grownBy_alloc w3 o none) (by simp)).c.2.2.2.2.1
  go_wp2_with fail
  refine (member_at _ (fun k => B ≤ k ∧ k ≠ w.heap.size + 1) (f + 1) t _ key (by exact K3.out.2.2.2.2.2.2.bel (bel_alloc _ _))).mono ?_
  rintro e w4 ⟨xm, bm, rfl, hb4', hmem⟩
  have B4 : Hid (Below w3.heap.size w3 w4) := bel_trans (bel_alloc _ _) hb4'
  have bxX : Hid (BoxIs w4 w3.heap.size (.int .i64 x.kind) (.int .i64 x.n) (.string ⟨x.s.toArray⟩) (.slice a5 x.keys.length c5) (.slice a6 x.l.length c6)) := box_bel hb4' (heap_alloc_new w3 _)
  have hsz4 : w3.heap.size < w4.heap.size := bxX.out.lt
  clear hb4' p0 p1 p2 p3 p4 r0 r1 r2 r3 r4
  have bxV : Hid (∀ o, BoxIs (w4.alloc o) w.heap.size (.int .i64 t.kind) (.int .i64 t.n) (.string ⟨t.s.toArray⟩) (.slice a7 t.keys.length c7) (.slice a8 t.l.length c8) ∧ BoxIs (w4.alloc o) w3.heap.size (.int .i64 x.kind) (.int .i64 x.n) (.string ⟨x.s.toArray⟩) (.slice a5 x.keys.length c5) (.slice a6 x.l.length c6) ∧ BoxIs (w4.alloc o) (w.heap.size + 1) (.int .i64 0) (.int .i64 0) (.string ⟨#[]⟩) (.slice none 0 0) (.slice none 0 0)) :=
    fun o => ⟨box_bel (bel_trans B4.out (bel_alloc w4 o)) K3.out.2.2.2.1, box_bel (bel_alloc w4 o) bxX.out, box_bel (bel_trans B4.out (bel_alloc w4 o)) K3.out.2.2.2.2.1⟩
  have s0 : ∀ o, (w4.alloc o).cell? ⟨w.heap.size, 0, none⟩ = some (.int .i64 t.kind) := fun o => (bxV.out o).1.c.1
  have s1 : ∀ o, (w4.alloc o).cell? ⟨w.heap.size, 1, none⟩ = some (.int .i64 t.n) := fun o => (bxV.out o).1.c.2.1
  have s2 : ∀ o, (w4.alloc o).cell? ⟨w.heap.size, 2, none⟩ = some (.string ⟨t.s.toArray⟩) := fun o => (bxV.out o).1.c.2.2.1
  have s3 : ∀ o, (w4.alloc o).cell? ⟨w.heap.size, 3, none⟩ = some (.slice a7 t.keys.length c7) := fun o => (bxV.out o).1.c.2.2.2.1
  have s4 : ∀ o, (w4.alloc o).cell? ⟨w.heap.size, 4, none⟩ = some (.slice a8 t.l.length c8) := fun o => (bxV.out o).1.c.2.2.2.2.1
  have v0 : ∀ o, (w4.alloc o).cell? ⟨w3.heap.size, 0, none⟩ = some (.int .i64 x.kind) := fun o => (bxV.out o).2.1.c.1
  have v1 : ∀ o, (w4.alloc o).cell? ⟨w3.heap.size, 1, none⟩ = some (.int .i64 x.n) := fun o => (bxV.out o).2.1.c.2.1
  have v2 : ∀ o, (w4.alloc o).cell? ⟨w3.heap.size, 2, none⟩ = some (.string ⟨x.s.toArray⟩) := fun o => (bxV.out o).2.1.c.2.2.1
  have v3 : ∀ o, (w4.alloc o).cell? ⟨w3.heap.size, 3, none⟩ = some (.slice a5 x.keys.length c5) := fun o => (bxV.out o).2.1.c.2.2.2.1
  have v4 : ∀ o, (w4.alloc o).cell? ⟨w3.heap.size, 4, none⟩ = some (.slice a6 x.l.length c6) := fun o => (bxV.out o).2.1.c.2.2.2.2.1
  have hws : Hid (st.bind (memS (valS f) t) = if (memV t key).isSome then none else st3.map (fun l => (withV t key x, l))) := memS_of K1.out.1 K3.out.1
  have hklm : key.length ≤ maxLen := by unfold maxLen; omega
  cases hmv : memV t key with
  | none =>
    rw [hmv] at hmem hws
    obtain ⟨rfl, rfl⟩ := hmem
    unfold leaf str
    go_wp2_with fail
    refine (HW.out _ (fun k => B ≤ k ∧ k ≠ w.heap.size + 1) f t x _ _ key (by exact K3.out.2.2.2.2.2.2.bel (bel_trans B4.out (bel_alloc _ _))) (by exact K3.out.2.2.2.2.2.1.bel (bel_trans B4.out (bel_alloc _ _))) HP.out (by omega) hklm).mono ?_
    rintro e w5 ⟨r, rfl, hr5, hb5⟩
    obtain ⟨e5, e6, d5, d6, rfl⟩ := hr5.form
    have G5 : Hid (VIs w5 (fun k => B ≤ k ∧ k ≠ w.heap.size + 1) (f + 1) (withV t key x) (.agg #[.int .i64 (withV t key x).kind, .int .i64 (withV t key x).n, .string ⟨(withV t key x).s.toArray⟩, .slice e5 (withV t key x).keys.length d5, .slice e6 (withV t key x).l.length d6]) ∧ w.grownBy w5 (some b) ∧ RdSt w5 b s st3 ∧ BoxIs w5 (w.heap.size + 1) (.int .i64 0) (.int .i64 0) (.string ⟨#[]⟩) (.slice none 0 0) (.slice none 0 0)) := by
      refine ⟨hr5.weak fun k hk => ?_, ?_, ?_, ?_⟩
      · rcases hk with hk | hk
        · exact hk
        · have := K3.out.2.2.1.size
          simp at hk
          exact ⟨by omega, by omega⟩
      · exact gb_own (gb_own (gb_own K3.out.2.2.1 (gb_below (r := none) B4.out) (by simp)) (World.grownBy_alloc w4 _ none) (by simp)) (gb_below (r := none) hb5) (by simp)
      · exact K3.out.2.1.of_heap (((gb_trans (gb_trans (gb_below (r := none) B4.out) (World.grownBy_alloc w4 _ none)) (gb_below hb5)).block b K3.out.2.1.lt (by simp)))
      · exact box_bel hb5 (bxV.out _).2.2
    clear hr5 hb5
    obtain ⟨x0, x1, x2, x3, x4, y0, y1, y2, y3, y4⟩ := G5.out.2.2.2.c
    obtain ⟨z0, z1, z2, z3, z4, -⟩ := (G5.out.2.2.2.set (.int .i64 (withV t key x).kind) (.int .i64 (withV t key x).n) (.string ⟨(withV t key x).s.toArray⟩) (.slice e5 (withV t key x).keys.length d5) (.slice e6 (withV t key x).l.length d6)).c
    have Z : Hid (_ ∧ _ ∧ _ ∧ _ ∧ _) := ⟨z0, z1, z2, z3, z4⟩
    clear z0 z1 z2 z3 z4
    go_wp2_with fail
    obtain ⟨z0, z1, z2, z3, z4⟩ := Z.out
    refine bodyPost_ret (v := (.agg #[.int .i64 (withV t key x).kind, .int .i64 (withV t key x).n, .string ⟨(withV t key x).s.toArray⟩, .slice e5 (withV t key x).keys.length d5, .slice e6 (withV t key x).l.length d6])) ?_ rfl ?_
    · simp only [set5] at z0 z1 z2 z3 z4
      simp [results, Tryz.results134, go_sem, z0, z1, z2, z3, z4]
    · obtain ⟨g1, g2, g3, g4⟩ := G5.out
      have g5 := set5_gb w5 (w.heap.size + 1) (.int .i64 (withV t key x).kind) (.int .i64 (withV t key x).n) (.string ⟨(withV t key x).s.toArray⟩) (.slice e5 (withV t key x).keys.length d5) (.slice e6 (withV t key x).l.length d6)
      have hwp := withV_paired (key := key) (x := x) HP.out
      refine ⟨withV t key x, st3, e5, e6, d5, d6, rfl, ?_, hwp.1, hwp.2, ?_, g3.of_heap (g5.block b g3.lt (by simp; omega)), gb_own g2 g5 (by intro k hk; cases hk; omega)⟩
      · exact (g1.grown g5 (fun k hk e => by simp at e; exact hk.2 e)).weak fun k hk => hk.1
      · rw [hws.out]; rfl
  | some y =>
    rw [hmv] at hmem hws
    obtain ⟨rfl, hy⟩ := hmem
    obtain ⟨i5, i6, j5, j6, rfl⟩ := hy.form
    clear hy
    go_wp2_with fail
    refine (fail_st _ b s st3 (by exact K3.out.2.1.of_heap (((gb_trans (gb_below (r := none) B4.out) (World.grownBy_alloc w4 _ none))).block b K3.out.2.1.lt (by simp)))).mono ?_
    rintro e w6 ⟨rfl, h6, hg6⟩
    have G6 : Hid (RdSt w6 b s none ∧ w.grownBy w6 (some b) ∧ VIs w6 (fun k => B ≤ k ∧ k ≠ w.heap.size + 1) (f + 1) t (.agg #[.int .i64 t.kind, .int .i64 t.n, .string ⟨t.s.toArray⟩, .slice a7 t.keys.length c7, .slice a8 t.l.length c8]) ∧ VIs w6 (fun k => B ≤ k ∧ k ≠ w.heap.size + 1) f x (.agg #[.int .i64 x.kind, .int .i64 x.n, .string ⟨x.s.toArray⟩, .slice a5 x.keys.length c5, .slice a6 x.l.length c6]) ∧ BoxIs w6 (w.heap.size + 1) (.int .i64 0) (.int .i64 0) (.string ⟨#[]⟩) (.slice none 0 0) (.slice none 0 0) ∧ w.heap.size ≤ w6.heap.size) := by
      have ga : w3.grownBy w6 (some b) := gb_trans (gb_trans (gb_below B4.out) (World.grownBy_alloc w4 _ _)) hg6
      exact ⟨h6, gb_trans K3.out.2.2.1 ga, K3.out.2.2.2.2.2.2.grown ga (fun k hk e => by cases e; omega), K3.out.2.2.2.2.2.1.grown ga (fun k hk e => by cases e; omega), K3.out.2.2.2.2.1.grown ga (by simp; omega), Nat.le_trans K3.out.2.2.1.size ga.size⟩
    have t0 := (bxV.out (.cells #[.int .i64 y.kind, .int .i64 y.n, .string ⟨y.s.toArray⟩, .slice i5 y.keys.length j5, .slice i6 y.l.length j6] 25))
    obtain ⟨s0', s1', s2', s3', s4', -⟩ := (t0.1.grown hg6 (by simp; omega)).c
    obtain ⟨v0', v1', v2', v3', v4', -⟩ := (t0.2.1.grown hg6 (by simp; have := K3.out.2.2.1.size; omega)).c
    have hsz6 := hg6.size
    clear h6 hg6 t0
    go_wp2_with fail
    refine (HW.out _ (fun k => B ≤ k ∧ k ≠ w.heap.size + 1) f t x _ _ key (by exact G6.out.2.2.1) (by exact G6.out.2.2.2.1) HP.out (by omega) hklm).mono ?_
    rintro e w5 ⟨r, rfl, hr5, hb5⟩
    obtain ⟨e5, e6, d5, d6, rfl⟩ := hr5.form
    have G5 : Hid (VIs w5 (fun k => B ≤ k ∧ k ≠ w.heap.size + 1) (f + 1) (withV t key x) (.agg #[.int .i64 (withV t key x).kind, .int .i64 (withV t key x).n, .string ⟨(withV t key x).s.toArray⟩, .slice e5 (withV t key x).keys.length d5, .slice e6 (withV t key x).l.length d6]) ∧ w.grownBy w5 (some b) ∧ RdSt w5 b s (none : Option (List UInt8)) ∧ BoxIs w5 (w.heap.size + 1) (.int .i64 0) (.int .i64 0) (.string ⟨#[]⟩) (.slice none 0 0) (.slice none 0 0)) := by
      refine ⟨hr5.weak fun k hk => ?_, ?_, ?_, ?_⟩
      · rcases hk with hk | hk
        · exact hk
        · have := G6.out.2.2.2.2.2
          exact ⟨by omega, by have := G6.out.2.2.2.2.1.lt; omega⟩
      · exact gb_own (gb_trans G6.out.2.1 (gb_refl _ _)) (gb_below (r := none) hb5) (by simp)
      · exact G6.out.1.of_heap ((gb_below (r := none) hb5).block b G6.out.1.lt (by simp))
      · exact box_bel hb5 G6.out.2.2.2.2.1
    clear hr5 hb5
    obtain ⟨x0, x1, x2, x3, x4, y0, y1, y2, y3, y4⟩ := G5.out.2.2.2.c
    obtain ⟨z0, z1, z2, z3, z4, -⟩ := (G5.out.2.2.2.set (.int .i64 (withV t key x).kind) (.int .i64 (withV t key x).n) (.string ⟨(withV t key x).s.toArray⟩) (.slice e5 (withV t key x).keys.length d5) (.slice e6 (withV t key x).l.length d6)).c
    have Z : Hid (_ ∧ _ ∧ _ ∧ _ ∧ _) := ⟨z0, z1, z2, z3, z4⟩
    clear z0 z1 z2 z3 z4
    go_wp2_with fail
    obtain ⟨z0, z1, z2, z3, z4⟩ := Z.out
    refine bodyPost_ret (v := (.agg #[.int .i64 (withV t key x).kind, .int .i64 (withV t key x).n, .string ⟨(withV t key x).s.toArray⟩, .slice e5 (withV t key x).keys.length d5, .slice e6 (withV t key x).l.length d6])) ?_ rfl ?_
    · simp only [set5] at z0 z1 z2 z3 z4
      simp [results, Tryz.results134, go_sem, z0, z1, z2, z3, z4]
    · obtain ⟨g1, g2, g3, g4⟩ := G5.out
      have g5 := set5_gb w5 (w.heap.size + 1) (.int .i64 (withV t key x).kind) (.int .i64 (withV t key x).n) (.string ⟨(withV t key x).s.toArray⟩) (.slice e5 (withV t key x).keys.length d5) (.slice e6 (withV t key x).l.length d6)
      have hwp := withV_paired (key := key) (x := x) HP.out
      refine ⟨withV t key x, (none : Option (List UInt8)), e5, e6, d5, d6, rfl, ?_, hwp.1, hwp.2, ?_, g3.of_heap (g5.block b g3.lt (by simp; omega)), gb_own g2 g5 (by intro k hk; cases hk; omega)⟩
      · exact (g1.grown g5 (fun k hk e => by simp at e; exact hk.2 e)).weak fun k hk => hk.1
      · rw [hws.out]; rfl
end Go.Proofs.YtmdemcjmcnfjmaaGreatDoor

/- What object of json's reader does, if value and With do what is said of them. -/
set_option linter.unusedSimpArgs false
set_option linter.unusedVariables false
namespace Go.Proofs.YtmdemcjmcnfjmaaGreatDoor
open Go.RowKit

theorem membsS_fuel {g : List UInt8 → Option (V × List UInt8)} (hg : Less g) (n : Nat) : ∀ (m : Nat) (v : V) (l : List UInt8), l.length < n → l.length < m → membsS g n v l = membsS g m v l := by
  induction n with
  | zero => intro m v l h; omega
  | succ n ih =>
    intro m v l h1 h2
    cases m with
    | zero => omega
    | succ m =>
      simp only [membsS]
      split
      · rename_i r hr
        have := markS_len hr
        cases hgr : memS g v r with
        | none => rfl
        | some p =>
          have := memS_len hg _ _ _ hgr
          exact ih m _ _ (by omega) (by omega)
      · rfl
def membsT (g : List UInt8 → Option (V × List UInt8)) (v : V) (st : Option (List UInt8)) : Option (V × List UInt8) := st.bind fun l => membsS g (l.length + 1) v l
theorem membs_step {g : List UInt8 → Option (V × List UInt8)} (hg : Less g) {v t0 : V} {st1 st3 : Option (List UInt8)} (h2 : (st1.bind (markS 44)).isSome = true) (h3 : (st1.bind (markS 44)).bind (memS g v) = st3.map (fun l => (t0, l))) :
    membsT g v st1 = membsT g t0 st3 ∧ togo st3 < togo st1 := by
  cases st1 with
  | none => cases h2
  | some l =>
    cases hm : markS 44 l with
    | none => simp [hm] at h2
    | some r =>
      have hr := markS_len hm
      simp only [Option.bind_some, hm] at h3
      have e : membsT g v (some l) = (memS g v r).bind fun p => membsS g l.length p.1 p.2 := by
        show membsS g (l.length + 1) v l = _
        simp only [membsS, hm]
      rw [e, h3]
      cases st3 with
      | none => exact ⟨rfl, by simp [togo]⟩
      | some l3 =>
        have hl := memS_len hg _ _ _ h3
        simp only at hl
        exact ⟨membsS_fuel hg _ _ _ _ (by simp only; omega) (by simp only; omega), by simp only [togo]; omega⟩
theorem membs_end {g : List UInt8 → Option (V × List UInt8)} {v : V} {st1 : Option (List UInt8)} (h2 : (st1.bind (markS 44)).isSome = false) :
    membsT g v st1 = ((st1.map (List.dropWhile isSp)).bind (markS 125)).map fun r => (v, r) := by
  cases st1 with
  | none => rfl
  | some l =>
    cases hm : markS 44 l with
    | some r => simp [hm] at h2
    | none =>
      show membsS g (l.length + 1) v l = _
      simp only [membsS, hm]; rfl
theorem objS_next {g : List UInt8 → Option (V × List UInt8)} {st : Option (List UInt8)} :
    st.bind (objS g) = (st.bind (markS 123)).bind fun l => match markS 125 l with | some r => some (⟨5, 0, [], [], []⟩, r) | none => (memS g ⟨5, 0, [], [], []⟩ (l.dropWhile isSp)).bind fun p => membsS g (p.2.length + 1) p.1 p.2 := by
  cases st <;> rfl
theorem obj_first {g : List UInt8 → Option (V × List UInt8)} {st st3 : Option (List UInt8)} {t0 : V} (h2 : ((st.bind (markS 123)).bind (markS 125)).isSome = false)
    (h3 : ((st.bind (markS 123)).map (List.dropWhile isSp)).bind (memS g ⟨5, 0, [], [], []⟩) = st3.map (fun l => (t0, l))) : st.bind (objS g) = membsT g t0 st3 := by
  rw [objS_next]
  cases hs : st.bind (markS 123) with
  | none =>
    rw [hs] at h3
    cases st3 with
    | none => rfl
    | some l => cases h3
  | some l =>
    rw [hs] at h2 h3
    simp only [Option.bind_some] at h2 ⊢
    have hm : markS 125 l = none := by cases hm : markS 125 l with
      | none => rfl
      | some r => simp [hm] at h2
    rw [hm]
    have h3' : memS g ⟨5, 0, [], [], []⟩ (l.dropWhile isSp) = st3.map (fun l => (t0, l)) := h3
    simp only [h3']
    cases st3 <;> rfl

/- What holds ahead of each comma. -/
def ObjI (f : Nat) (w : World) (b : Nat) (s : ByteArray) (T : Option (V × List UInt8)) (k : Nat) (wr : World) : Prop :=
  ∃ (t : V) (st1 : Option (List UInt8)) (a7 a8 : Option Addr) (c7 c8 : Nat), k = togo st1 ∧ membsT (valS f) t st1 = T ∧ t.l.length + k ≤ 3000 ∧ (st1.getD []).length < f + 1 ∧ BoxIs wr w.heap.size (.int .i64 0) (.int .i64 0) (.string ⟨#[]⟩) (.slice none 0 0) (.slice none 0 0) ∧ BoxIs wr (w.heap.size + 1) (.int .i64 t.kind) (.int .i64 t.n) (.string ⟨t.s.toArray⟩) (.slice a7 t.keys.length c7) (.slice a8 t.l.length c8) ∧
    VIs wr (fun k => w.heap.size + 2 ≤ k) (f + 1) t (.agg #[.int .i64 t.kind, .int .i64 t.n, .string ⟨t.s.toArray⟩, .slice a7 t.keys.length c7, .slice a8 t.l.length c8]) ∧ pairedV t = true ∧ RdSt wr b s st1 ∧ Glob wr ∧ w.grownBy wr (some b)

theorem objI_mk {f : Nat} {w w3 : World} {b : Nat} {s : ByteArray} {T : Option (V × List UInt8)} {t : V} {st3 : Option (List UInt8)} {a7 a8 : Option Addr} {c7 c8 : Nat} {d0 d1 d2 d3 d4 : Value} (hb4 : 6 ≤ b) (hbl : b < w.heap.size)
    (bxC : BoxIs w3 w.heap.size (.int .i64 0) (.int .i64 0) (.string ⟨#[]⟩) (.slice none 0 0) (.slice none 0 0)) (bxA : BoxIs w3 (w.heap.size + 1) d0 d1 d2 d3 d4) (hv : VIs w3 (fun k => w.heap.size + 2 ≤ k) (f + 1) t (.agg #[.int .i64 t.kind, .int .i64 t.n, .string ⟨t.s.toArray⟩, .slice a7 t.keys.length c7, .slice a8 t.l.length c8])) (hp : pairedV t = true) (hT : membsT (valS f) t st3 = T) (hl : (st3.getD []).length < f + 1) (hc : t.l.length + togo st3 ≤ 3000)
    (hr : RdSt w3 b s st3) (hG : Glob w3) (hg : w.grownBy w3 (some b)) : ObjI f w b s T (togo st3) (set5 w3 (w.heap.size + 1) (.int .i64 t.kind) (.int .i64 t.n) (.string ⟨t.s.toArray⟩) (.slice a7 t.keys.length c7) (.slice a8 t.l.length c8)) := by
  have g5 := set5_gb w3 (w.heap.size + 1) (.int .i64 t.kind) (.int .i64 t.n) (.string ⟨t.s.toArray⟩) (.slice a7 t.keys.length c7) (.slice a8 t.l.length c8)
  exact ⟨t, st3, a7, a8, c7, c8, rfl, hT, hc, hl, bxC.grown g5 (by simp), bxA.set _ _ _ _ _, hv.grown g5 (fun k hk e => by simp at e; omega), hp, hr.of_heap (g5.block b hr.lt (by simp; omega)),
    hG.grown g5 (fun k hk => by cases hk; omega), gb_own hg g5 (by intro k hk; cases hk; omega)⟩

set_option maxRecDepth 100000 in
set_option maxHeartbeats 4000000 in
theorem object_st (hW : WithC) (f : Nat) (ih : ValC f) (w : World) (b : Nat) (s : ByteArray) (st : Option (List UInt8)) (h : RdSt w b s st) (hG : Glob w) (hb4 : 6 ≤ b) (hf0 : 0 < f) (hlen : (st.getD []).length < f + 1) :
    Calls Tryz.prog 96 #[.pointer (some ⟨b, 0, none⟩)] w fun e w' => ∃ (t : V) (st' : Option (List UInt8)) (a7 a8 : Option Addr) (c7 c8 : Nat),
      e = .returned (.agg #[.int .i64 t.kind, .int .i64 t.n, .string ⟨t.s.toArray⟩, .slice a7 t.keys.length c7, .slice a8 t.l.length c8]) ∧ VIs w' (fun k => w.heap.size ≤ k) (f + 1) t (.agg #[.int .i64 t.kind, .int .i64 t.n, .string ⟨t.s.toArray⟩, .slice a7 t.keys.length c7, .slice a8 t.l.length c8]) ∧ st.bind (objS (valS f)) = st'.map (fun l => (t, l)) ∧ RdSt w' b s st' ∧ w.grownBy w' (some b) := by
  have H := hidI h
  have HG := hidI hG
  have IH := hidI ih
  have HW := hidI hW
  have hbl := h.lt
  clear h hG ih hW
  go_enter Tryz.func96, Tryz.ntmps96
  go_wp2_with fail
  refine (need_st _ b s st 123 123 rfl (by decide) (by exact H.out.grown (gb_alloc (World.grownBy_alloc w _ none) _) (by simp))).mono ?_
  rintro e w1 ⟨rfl, h1, hg1⟩
  have bx1 : Hid (BoxIs w1 w.heap.size (.int .i64 0) (.int .i64 0) (.string ⟨#[]⟩) (.slice none 0 0) (.slice none 0 0) ∧ BoxIs w1 (w.heap.size + 1) (.int .i64 5) (.int .i64 0) (.string ⟨#[]⟩) (.slice none 0 0) (.slice none 0 0)) :=
    ⟨BoxIs.grown (h2a w _ _) hg1 (by simp; omega), BoxIs.grown (h2b w _ _) hg1 (by simp; omega)⟩
  have G1 : Hid (RdSt w1 b s (st.bind (markS 123)) ∧ w.grownBy w1 (some b)) := ⟨h1, gb_trans (gb_alloc (gb_alloc (gb_refl _ _) _) _) hg1⟩
  clear h1 hg1
  go_wp2_with fail
  refine (mark_st _ b s (st.bind (markS 123)) 125 125 rfl (by decide) (by exact G1.out.1)).mono ?_
  rintro e w2 ⟨rfl, h2, hg2⟩
  have bx2 : Hid (BoxIs w2 w.heap.size (.int .i64 0) (.int .i64 0) (.string ⟨#[]⟩) (.slice none 0 0) (.slice none 0 0) ∧ BoxIs w2 (w.heap.size + 1) (.int .i64 5) (.int .i64 0) (.string ⟨#[]⟩) (.slice none 0 0) (.slice none 0 0)) := ⟨bx1.out.1.grown hg2 (by simp; omega), bx1.out.2.grown hg2 (by simp; omega)⟩
  have G2 : Hid (RdSt w2 b s (if ((st.bind (markS 123)).bind (markS 125)).isSome then (st.bind (markS 123)).bind (markS 125) else (st.bind (markS 123)).map (List.dropWhile isSp)) ∧ w.grownBy w2 (some b)) := ⟨h2, gb_trans G1.out.2 hg2⟩
  obtain ⟨x0, x1, x2, x3, x4, y0, y1, y2, y3, y4⟩ := bx2.out.1.c
  obtain ⟨p0, p1, p2, p3, p4, q0, q1, q2, q3, q4⟩ := bx2.out.2.c
  clear h2 hg2 bx1 G1
  cases hm : ((st.bind (markS 123)).bind (markS 125)).isSome with
  | true =>
    have HM := hidI hm
    obtain ⟨z0, z1, z2, z3, z4, -⟩ := (bx2.out.1.set (.int .i64 5) (.int .i64 0) (.string ⟨#[]⟩) (.slice none 0 0) (.slice none 0 0)).c
    have Z : Hid (_ ∧ _ ∧ _ ∧ _ ∧ _) := ⟨z0, z1, z2, z3, z4⟩
    clear z0 z1 z2 z3 z4 hm
    go_wp2_with fail
    obtain ⟨z0, z1, z2, z3, z4⟩ := Z.out
    refine bodyPost_ret (v := leaf 5 0 []) ?_ rfl ?_
    · simp only [set5, str] at z0 z1 z2 z3 z4
      simp [results, Tryz.results96, go_sem, z0, z1, z2, z3, z4, leaf, str]
    · refine ⟨leafV 5 0 [], (st.bind (markS 123)).bind (markS 125), none, none, 0, 0, rfl, leaf_is _ _ f _ _ _ (by unfold I64; omega) (by unfold I64; omega) (by simp), ?_, ?_, ?_⟩
      · rw [objS_next]
        cases hs : st.bind (markS 123) with
        | none => rw [hs] at HM; exact absurd HM.out (by simp)
        | some l =>
          rw [hs] at HM
          cases h9 : markS 125 l with
          | none => simp [h9] at HM; exact absurd HM.out (by simp)
          | some r => simp only [Option.bind_some, h9]; rfl
      · have := G2.out.1
        rw [if_pos HM.out] at this
        exact this.of_heap ((set5_gb w2 w.heap.size _ _ _ _ _).block b this.lt (by simp; omega))
      · exact gb_own G2.out.2 (set5_gb w2 w.heap.size _ _ _ _ _) (by intro k hk; cases hk; exact Nat.le_refl _)
  | false =>
    have HM := hidI hm
    have G3 : Hid (RdSt w2 b s ((st.bind (markS 123)).map (List.dropWhile isSp)) ∧ w.grownBy w2 (some b) ∧ Glob w2) := by
      have := G2.out.1
      rw [if_neg (by rw [HM.out]; simp)] at this
      exact ⟨this, G2.out.2, HG.out.grown G2.out.2 (by intro k hk; cases hk; exact hb4)⟩
    clear hm G2
    have call5 : Hid (Calls Tryz.prog 134 #[.pointer (some ⟨b, 0, none⟩), .agg #[.int .i64 5, .int .i64 0, .string ⟨#[]⟩, .slice none 0 0, .slice none 0 0]] w2 fun e w' => ∃ (t : V) (st' : Option (List UInt8)) (a7 a8 : Option Addr) (c7 c8 : Nat),
        e = .returned (.agg #[.int .i64 t.kind, .int .i64 t.n, .string ⟨t.s.toArray⟩, .slice a7 t.keys.length c7, .slice a8 t.l.length c8]) ∧ VIs w' (fun k => w.heap.size + 2 ≤ k) (f + 1) t (.agg #[.int .i64 t.kind, .int .i64 t.n, .string ⟨t.s.toArray⟩, .slice a7 t.keys.length c7, .slice a8 t.l.length c8]) ∧ pairedV t = true ∧ st.bind (objS (valS f)) = membsT (valS f) t st' ∧ (st'.getD []).length < f + 1 ∧ t.l.length + togo st' ≤ 3000 ∧ RdSt w' b s st' ∧ w2.grownBy w' (some b)) := by
      have hl2 : (((st.bind (markS 123)).map (List.dropWhile isSp)).getD []).length < f := by
        cases hs : st.bind (markS 123) with
        | none => exact hf0
        | some l =>
          cases st with
          | none => cases hs
          | some l0 =>
            have := markS_len (show markS 123 l0 = some l from hs)
            have := dropSp_len l
            simp only [Option.getD_some, Option.map_some] at hlen ⊢
            omega
      refine (member_st HW.out f IH.out w2 b (w.heap.size + 2) s _ ⟨5, 0, [], [], []⟩ none none 0 0 G3.out.1 G3.out.2.2 hb4 hf0 (by omega) (by omega) bx2.out.2.lt (leaf_is w2 _ f 5 0 [] (by unfold I64; omega) (by unfold I64; omega) (by simp)) rfl (by simp)).mono ?_
      rintro e w' ⟨t, st', a7, a8, c7, c8, rfl, hv, hp, htl, hst, hr, hg⟩
      refine ⟨t, st', a7, a8, c7, c8, rfl, hv, hp, obj_first HM.out hst, ?_, ?_, hr, hg⟩
      · cases st' with
        | none => simp
        | some l' =>
          cases hs : (st.bind (markS 123)).map (List.dropWhile isSp) with
          | none => rw [hs] at hst; cases hst
          | some l1 =>
            rw [hs] at hst hl2
            have := memS_len (valS_len f) _ l1 _ hst
            simp only [Option.getD_some] at hl2 ⊢
            simp only at this
            omega
      · simp only [List.length_nil] at htl
        cases st' with
        | none => simp only [togo]; omega
        | some l' => have := hr.len; simp only [togo]; omega
    go_wp2_with fail
    refine (call5.out).mono ?_
    rintro e w3 ⟨t, st3, a7, a8, c7, c8, rfl, hv3, hp3, hT3, hl3, hc3, hr3, hg3⟩
    have I0 : Hid (ObjI f w b s (st.bind (objS (valS f))) (togo st3) (set5 w3 (w.heap.size + 1) (.int .i64 t.kind) (.int .i64 t.n) (.string ⟨t.s.toArray⟩) (.slice a7 t.keys.length c7) (.slice a8 t.l.length c8))) :=
      objI_mk hb4 hbl (bx2.out.1.grown hg3 (by simp; omega)) (bx2.out.2.grown hg3 (by simp; omega)) hv3 hp3 hT3.symm hl3 hc3 hr3 (G3.out.2.2.grown hg3 (by intro k hk; cases hk; exact hb4)) (gb_trans G3.out.2.1 hg3)
    clear p0 p1 p2 p3 p4 q0 q1 q2 q3 q4
    obtain ⟨p0, p1, p2, p3, p4, q0, q1, q2, q3, q4⟩ := (bx2.out.2.grown hg3 (by simp; omega)).c
    clear hv3 hp3 hT3 hl3 hc3 hr3 hg3 x0 x1 x2 x3 x4 y0 y1 y2 y3 y4
    go_wp2_with fail
    go_loopg [] (togo st3) (fun k wr => ObjI f w b s (st.bind (objS (valS f))) k wr)
    case atStart => exact I0.out
    case round =>
      clear p0 p1 p2 p3 p4 q0 q1 q2 q3 q4 I0 call5 bx2 G3
      obtain ⟨t, st1, a7, a8, c7, c8, hk, hT, hc, hl1, bxC, bxA, hv, hp, hr, hGr, hg⟩ := hrel
      have A : Hid (gk = togo st1 ∧ membsT (valS f) t st1 = st.bind (objS (valS f)) ∧ t.l.length + gk ≤ 3000 ∧ (st1.getD []).length < f + 1 ∧ BoxIs wr w.heap.size (.int .i64 0) (.int .i64 0) (.string ⟨#[]⟩) (.slice none 0 0) (.slice none 0 0) ∧ BoxIs wr (w.heap.size + 1) (.int .i64 t.kind) (.int .i64 t.n) (.string ⟨t.s.toArray⟩) (.slice a7 t.keys.length c7) (.slice a8 t.l.length c8) ∧ VIs wr (fun k => w.heap.size + 2 ≤ k) (f + 1) t (.agg #[.int .i64 t.kind, .int .i64 t.n, .string ⟨t.s.toArray⟩, .slice a7 t.keys.length c7, .slice a8 t.l.length c8]) ∧ pairedV t = true ∧ RdSt wr b s st1 ∧ Glob wr ∧ w.grownBy wr (some b)) := ⟨hk, hT, hc, hl1, bxC, bxA, hv, hp, hr, hGr, hg⟩
      have htl : t.l.length ≤ 3000 := by omega
      clear hk hT hc hl1 bxC bxA hv hp hr hGr hg
      go_wp2_with fail
      refine (mark_st _ b s st1 44 44 rfl (by decide) (by exact A.out.2.2.2.2.2.2.2.2.1)).mono ?_
      rintro e w2 ⟨rfl, h2, hg2⟩
      have D : Hid (RdSt w2 b s (if (st1.bind (markS 44)).isSome then st1.bind (markS 44) else st1.map (List.dropWhile isSp)) ∧ BoxIs w2 w.heap.size (.int .i64 0) (.int .i64 0) (.string ⟨#[]⟩) (.slice none 0 0) (.slice none 0 0) ∧ BoxIs w2 (w.heap.size + 1) (.int .i64 t.kind) (.int .i64 t.n) (.string ⟨t.s.toArray⟩) (.slice a7 t.keys.length c7) (.slice a8 t.l.length c8) ∧ VIs w2 (fun k => w.heap.size + 2 ≤ k) (f + 1) t (.agg #[.int .i64 t.kind, .int .i64 t.n, .string ⟨t.s.toArray⟩, .slice a7 t.keys.length c7, .slice a8 t.l.length c8]) ∧ Glob w2 ∧ w.grownBy w2 (some b)) := by
        obtain ⟨hk, hT, hc, hl1, bxC, bxA, hv, hp, hr, hGr, hg⟩ := A.out
        exact ⟨h2, bxC.grown hg2 (by simp; omega), bxA.grown hg2 (by simp; omega), hv.grown hg2 (fun k hk e => by simp at e; omega), hGr.grown hg2 (by intro k hk; cases hk; exact hb4), gb_trans hg hg2⟩
      clear h2 hg2
      obtain ⟨p0, p1, p2, p3, p4, q0, q1, q2, q3, q4⟩ := D.out.2.2.1.c
      cases hm : (st1.bind (markS 44)).isSome with
      | true =>
        have HM := hidI hm
        have R2 : Hid (RdSt w2 b s (st1.bind (markS 44))) := by have := D.out.1; rw [if_pos hm] at this; exact this
        clear hm
        go_wp2_with fail
        have hl2 : Hid (((st1.bind (markS 44)).getD []).length < f + 1) := by
          show _ < _
          have hl1 := A.out.2.2.2.1
          cases st1 with
          | none => simp
          | some l0 =>
            cases hs : markS 44 l0 with
            | none => simp only [Option.bind_some, hs]; simp
            | some l =>
              have := markS_len hs
              simp only [Option.bind_some, hs, Option.getD_some] at hl1 ⊢
              omega
        refine (member_st HW.out f IH.out _ b (w.heap.size + 2) s _ t a7 a8 c7 c8 (by exact R2.out) (by exact D.out.2.2.2.2.1) hb4 hf0 hl2.out (by omega) (by exact D.out.2.2.1.lt) (by exact D.out.2.2.2.1) A.out.2.2.2.2.2.2.2.1 (by omega)).mono ?_
        rintro e w3 ⟨t', st3, a5, a6, c5, c6, rfl, hv3, hp3, htl3, hst3, hr3, hg3⟩
        have V3 : Hid (ObjI f w b s (st.bind (objS (valS f))) (togo st3) (set5 w3 (w.heap.size + 1) (.int .i64 t'.kind) (.int .i64 t'.n) (.string ⟨t'.s.toArray⟩) (.slice a5 t'.keys.length c5) (.slice a6 t'.l.length c6)) ∧ togo st3 < gk) := by
          obtain ⟨hk, hT, hc, hl1, -⟩ := A.out
          obtain ⟨i1, i2⟩ := membs_step (valS_len f) HM.out hst3
          refine ⟨objI_mk hb4 hbl (D.out.2.1.grown hg3 (by simp; omega)) (D.out.2.2.1.grown hg3 (by simp; omega)) hv3 hp3 (by rw [← hT, i1]) ?_ (by omega) hr3 (D.out.2.2.2.2.1.grown hg3 (by intro k hk; cases hk; exact hb4)) (gb_trans D.out.2.2.2.2.2 hg3), by rw [hk]; exact i2⟩
          cases st3 with
          | none => simp
          | some l' =>
            cases hs : st1.bind (markS 44) with
            | none => rw [hs] at hst3; cases hst3
            | some l1 =>
              rw [hs] at hst3
              have := memS_len (valS_len f) _ l1 _ hst3
              have h8 := hl2.out
              rw [hs] at h8
              simp only [Option.getD_some] at h8 ⊢
              simp only at this
              omega
        clear p0 p1 p2 p3 p4 q0 q1 q2 q3 q4
        obtain ⟨p0, p1, p2, p3, p4, q0, q1, q2, q3, q4⟩ := (D.out.2.2.1.grown hg3 (by simp; omega)).c
        clear hv3 hp3 htl3 hst3 hr3 hg3
        go_wp2_with fail
        go_roundg (togo st3)
        case measure => exact V3.out.2
        case rel => exact V3.out.1
      | false =>
        have HM := hidI hm
        have R2 : Hid (RdSt w2 b s (st1.map (List.dropWhile isSp))) := by have := D.out.1; rw [if_neg (by rw [hm]; simp)] at this; exact this
        clear hm
        go_wp2_with fail
        refine (need_st _ b s _ 125 125 rfl (by decide) (by exact R2.out)).mono ?_
        rintro e w3 ⟨rfl, h3, hg3⟩
        have E : Hid (RdSt w3 b s ((st1.map (List.dropWhile isSp)).bind (markS 125)) ∧ w.grownBy w3 (some b) ∧ BoxIs w3 w.heap.size (.int .i64 0) (.int .i64 0) (.string ⟨#[]⟩) (.slice none 0 0) (.slice none 0 0) ∧ BoxIs w3 (w.heap.size + 1) (.int .i64 t.kind) (.int .i64 t.n) (.string ⟨t.s.toArray⟩) (.slice a7 t.keys.length c7) (.slice a8 t.l.length c8) ∧ VIs w3 (fun k => w.heap.size + 2 ≤ k) (f + 1) t (.agg #[.int .i64 t.kind, .int .i64 t.n, .string ⟨t.s.toArray⟩, .slice a7 t.keys.length c7, .slice a8 t.l.length c8])) :=
          ⟨h3, gb_trans D.out.2.2.2.2.2 hg3, D.out.2.1.grown hg3 (by simp; omega), D.out.2.2.1.grown hg3 (by simp; omega), D.out.2.2.2.1.grown hg3 (fun k hk e => by simp at e; omega)⟩
        clear h3 hg3 p0 p1 p2 p3 p4 q0 q1 q2 q3 q4
        obtain ⟨x0, x1, x2, x3, x4, y0, y1, y2, y3, y4⟩ := E.out.2.2.1.c
        obtain ⟨p0, p1, p2, p3, p4, -⟩ := E.out.2.2.2.1.c
        obtain ⟨z0, z1, z2, z3, z4, -⟩ := (E.out.2.2.1.set (.int .i64 t.kind) (.int .i64 t.n) (.string ⟨t.s.toArray⟩) (.slice a7 t.keys.length c7) (.slice a8 t.l.length c8)).c
        have Z : Hid (_ ∧ _ ∧ _ ∧ _ ∧ _) := ⟨z0, z1, z2, z3, z4⟩
        clear z0 z1 z2 z3 z4
        go_wp2_with fail
        obtain ⟨z0, z1, z2, z3, z4⟩ := Z.out
        refine bodyPost_ret (v := (.agg #[.int .i64 t.kind, .int .i64 t.n, .string ⟨t.s.toArray⟩, .slice a7 t.keys.length c7, .slice a8 t.l.length c8])) ?_ rfl ?_
        · simp only [set5] at z0 z1 z2 z3 z4
          simp [results, Tryz.results96, go_sem, z0, z1, z2, z3, z4]
        · obtain ⟨e1, e2, e3, e4, e5⟩ := E.out
          have g5 := set5_gb w3 w.heap.size (.int .i64 t.kind) (.int .i64 t.n) (.string ⟨t.s.toArray⟩) (.slice a7 t.keys.length c7) (.slice a8 t.l.length c8)
          refine ⟨t, (st1.map (List.dropWhile isSp)).bind (markS 125), a7, a8, c7, c8, rfl, (e5.grown g5 (fun k hk e => by simp at e; omega)).weak (fun k hk => by omega), ?_, e1.of_heap (g5.block b e1.lt (by simp; omega)), gb_own e2 g5 (by intro k hk; cases hk; exact Nat.le_refl _)⟩
          rw [← A.out.2.1, membs_end HM.out]
end Go.Proofs.YtmdemcjmcnfjmaaGreatDoor

/- What value of json's reader does: what valS says. -/
set_option linter.unusedSimpArgs false
set_option linter.unusedVariables false
namespace Go.Proofs.YtmdemcjmcnfjmaaGreatDoor
open Go.RowKit

theorem spaces_st (w : World) (b : Nat) (s : ByteArray) (st : Option (List UInt8)) (h : RdSt w b s st) :
    Calls Tryz.prog 64 #[.pointer (some ⟨b, 0, none⟩)] w fun e w' => e = .returned (.tuple #[]) ∧ RdSt w' b s (st.map (List.dropWhile isSp)) ∧ w.grownBy w' (some b) := by
  refine (spaces_at w b s _ _ h).mono ?_
  rintro e w' ⟨he, hr, hg⟩
  refine ⟨he, ?_, hg⟩
  cases st with
  | none => exact hr
  | some l => exact hr
theorem valS_next (f : Nat) (st : Option (List UInt8)) : st.bind (valS (f + 1)) = (st.map (List.dropWhile isSp)).bind (oneS (valS f)) := by cases st <;> rfl
theorem hd_ne {l : List UInt8} {c : UInt8} {m : Int} (hm : m = (c.toNat : Int)) (h : hd0 l ≠ c) : (((hd0 l).toNat : Int) == m) = false := u8_ne hm h
theorem hd_eq {l : List UInt8} {c : UInt8} {m : Int} (hm : m = (c.toNat : Int)) (h : hd0 l = c) : (((hd0 l).toNat : Int) == m) = true := by rw [h, hm]; simp

/- The answer, put into the result's block. -/
theorem val_fin {f : Nat} {w w3 : World} {b : Nat} {s : ByteArray} {st st' : Option (List UInt8)} {t : V} {a7 a8 : Option Addr} {c7 c8 : Nat} (hbl : b < w.heap.size) (hv : VIs w3 (fun k => w.heap.size + 1 ≤ k) (f + 1) t (.agg #[.int .i64 t.kind, .int .i64 t.n, .string ⟨t.s.toArray⟩, .slice a7 t.keys.length c7, .slice a8 t.l.length c8]))
    (hst : st.bind (valS (f + 1)) = st'.map (fun l => (t, l))) (hr : RdSt w3 b s st') (hg : w.grownBy w3 (some b)) (hbx : BoxIs w3 w.heap.size (.int .i64 0) (.int .i64 0) (.string ⟨#[]⟩) (.slice none 0 0) (.slice none 0 0)) :
    BoxIs (set5 w3 w.heap.size (.int .i64 t.kind) (.int .i64 t.n) (.string ⟨t.s.toArray⟩) (.slice a7 t.keys.length c7) (.slice a8 t.l.length c8)) w.heap.size (.int .i64 t.kind) (.int .i64 t.n) (.string ⟨t.s.toArray⟩) (.slice a7 t.keys.length c7) (.slice a8 t.l.length c8) ∧ VIs (set5 w3 w.heap.size (.int .i64 t.kind) (.int .i64 t.n) (.string ⟨t.s.toArray⟩) (.slice a7 t.keys.length c7) (.slice a8 t.l.length c8)) (fun k => w.heap.size ≤ k) (f + 1) t (.agg #[.int .i64 t.kind, .int .i64 t.n, .string ⟨t.s.toArray⟩, .slice a7 t.keys.length c7, .slice a8 t.l.length c8]) ∧ RdSt (set5 w3 w.heap.size (.int .i64 t.kind) (.int .i64 t.n) (.string ⟨t.s.toArray⟩) (.slice a7 t.keys.length c7) (.slice a8 t.l.length c8)) b s st' ∧ w.grownBy (set5 w3 w.heap.size (.int .i64 t.kind) (.int .i64 t.n) (.string ⟨t.s.toArray⟩) (.slice a7 t.keys.length c7) (.slice a8 t.l.length c8)) (some b) := by
  have g5 := set5_gb w3 w.heap.size (.int .i64 t.kind) (.int .i64 t.n) (.string ⟨t.s.toArray⟩) (.slice a7 t.keys.length c7) (.slice a8 t.l.length c8)
  exact ⟨hbx.set _ _ _ _ _, (hv.grown g5 (fun k hk e => by simp at e; omega)).weak (fun k hk => by omega), hr.of_heap (g5.block b hr.lt (by simp; omega)), gb_own hg g5 (by intro k hk; cases hk; exact Nat.le_refl _)⟩

set_option maxRecDepth 100000 in
set_option maxHeartbeats 8000000 in
theorem value_succ (hW : WithC) (f : Nat) (ih : ValC f) : ValC (f + 1) := by
  intro w b s st h hG hb4 hlen
  have H := hidI h
  have HG := hidI hG
  have IH := hidI ih
  have HW := hidI hW
  have hbl := h.lt
  clear h hG ih hW
  go_enter Tryz.func63, Tryz.ntmps63
  go_wp2_with fail
  refine (spaces_st _ b s st (by exact H.out.grown (World.grownBy_alloc w _ none) (by simp))).mono ?_
  rintro e w1 ⟨rfl, h1, hg1⟩
  have K1 : Hid (RdSt w1 b s (st.map (List.dropWhile isSp)) ∧ w.grownBy w1 (some b) ∧ BoxIs w1 w.heap.size (.int .i64 0) (.int .i64 0) (.string ⟨#[]⟩) (.slice none 0 0) (.slice none 0 0) ∧ Glob w1) := by
    have g := gb_trans (gb_alloc (gb_refl w (some b)) _) hg1
    exact ⟨h1, g, BoxIs.grown (heap_alloc_new w _) hg1 (by simp; omega), HG.out.grown g (by intro k hk; cases hk; exact hb4)⟩
  clear h1 hg1
  go_wp2_with fail
  refine (ahead_at _ b s ((st.map (List.dropWhile isSp)).getD []) (st.map (List.dropWhile isSp)).isNone (by exact K1.out.1)).mono ?_
  rintro e w2 ⟨rfl, n2, hw2⟩
  have K2 : Hid (RdSt w2 b s (st.map (List.dropWhile isSp)) ∧ w.grownBy w2 (some b) ∧ BoxIs w2 w.heap.size (.int .i64 0) (.int .i64 0) (.string ⟨#[]⟩) (.slice none 0 0) (.slice none 0 0) ∧ Glob w2) := by
    rw [hw2]; exact ⟨K1.out.1.of_heap rfl, gb_drewN K1.out.2.1 _, K1.out.2.2.1, K1.out.2.2.2.same rfl⟩
  have hsz2 : w.heap.size + 1 ≤ w2.heap.size := K2.out.2.2.1.lt
  clear hw2 K1
  have N : Hid (st.bind (valS (f + 1)) = (st.map (List.dropWhile isSp)).bind (oneS (valS f))) := valS_next f st
  have hlen2 : Hid ((((st.map (List.dropWhile isSp)).getD []).length < f + 1)) := by
    show _ < _
    cases st with
    | none => simp
    | some l => have := dropSp_len l; simp only [Option.getD_some, Option.map_some] at hlen ⊢; omega
  obtain ⟨st1, hst1⟩ : ∃ st1, st1 = st.map (List.dropWhile isSp) := ⟨_, rfl⟩
  rw [← hst1] at K2 N hlen2 ⊢
  have HST := hidI hst1
  clear hst1
  by_cases q110 : hd0 (st1.getD []) = 110
  · have d := hd_eq (m := 110) rfl q110
    have E : Hid (st1.bind (oneS (valS f)) = (st1.bind (wordS [110, 117, 108, 108])).map fun r => (leafV 0 0 [], r)) := by
      cases st1 with
      | none => rfl
      | some l =>
        have q : hd0 l = 110 := q110
        show oneS (valS f) l = _
        simp only [oneS, q]
        rfl
    go_wp2_with fail
    refine (word_st _ b s st1 ⟨#[110, 117, 108, 108]⟩ 0 0 (by unfold I64; omega) (by unfold I64; omega) (by decide) (by decide) (by exact K2.out.1)).mono ?_
    rintro e w3 ⟨t, v, st3, rfl, ⟨kk, nn, rfl, rfl, hkk, hnn⟩, hst3, hr3, hg3⟩
    have HSTF : Hid (st.bind (valS (f + 1)) = st3.map (fun l => (leafV kk nn [], l))) := by show _ = _; rw [N.out, E.out]; exact hst3
    have HBX : BoxIs w3 w.heap.size (.int .i64 0) (.int .i64 0) (.string ⟨#[]⟩) (.slice none 0 0) (.slice none 0 0) := K2.out.2.2.1.grown hg3 (by simp; omega)
    have HVV : VIs w3 (fun k => w.heap.size + 1 ≤ k) (f + 1) (leafV kk nn []) (leaf kk nn []) := leaf_is _ _ f _ _ _ hkk hnn (by simp)
    have HGG := gb_trans K2.out.2.1 hg3
    have HRR := hr3
    have HST2 := HSTF.out
    clear hst3 hr3 hg3
    unfold leaf str
    have FIN := hidI (val_fin (f := f) (a7 := none) (a8 := none) (c7 := 0) (c8 := 0) hbl HVV HST2 HRR HGG HBX)
    obtain ⟨x0, x1, x2, x3, x4, y0, y1, y2, y3, y4⟩ := HBX.c
    obtain ⟨z0, z1, z2, z3, z4, -⟩ := (HBX.set (.int .i64 kk) (.int .i64 nn) (.string ⟨#[]⟩) (.slice none 0 0) (.slice none 0 0)).c
    clear HVV HST2 HRR HGG HBX
    have Z : Hid (_ ∧ _ ∧ _ ∧ _ ∧ _) := ⟨z0, z1, z2, z3, z4⟩
    clear z0 z1 z2 z3 z4
    go_wp2_with fail
    obtain ⟨z0, z1, z2, z3, z4⟩ := Z.out
    refine bodyPost_ret (v := leaf kk nn []) ?_ rfl ?_
    · simp only [set5] at z0 z1 z2 z3 z4
      simp [results, Tryz.results63, go_sem, z0, z1, z2, z3, z4, leaf, leafV, str]
    · exact ⟨leafV kk nn [], st3, none, none, 0, 0, rfl, FIN.out.2.1, HSTF.out, FIN.out.2.2.1, FIN.out.2.2.2⟩
  have n110 := hd_ne (m := 110) rfl q110
  by_cases q102 : hd0 (st1.getD []) = 102
  · have d := hd_eq (m := 102) rfl q102
    have E : Hid (st1.bind (oneS (valS f)) = (st1.bind (wordS [102, 97, 108, 115, 101])).map fun r => (leafV 1 0 [], r)) := by
      cases st1 with
      | none => rfl
      | some l =>
        have q : hd0 l = 102 := q102
        show oneS (valS f) l = _
        simp only [oneS, q]
        rfl
    go_wp2_with fail
    refine (word_st _ b s st1 ⟨#[102, 97, 108, 115, 101]⟩ 1 0 (by unfold I64; omega) (by unfold I64; omega) (by decide) (by decide) (by exact K2.out.1)).mono ?_
    rintro e w3 ⟨t, v, st3, rfl, ⟨kk, nn, rfl, rfl, hkk, hnn⟩, hst3, hr3, hg3⟩
    have HSTF : Hid (st.bind (valS (f + 1)) = st3.map (fun l => (leafV kk nn [], l))) := by show _ = _; rw [N.out, E.out]; exact hst3
    have HBX : BoxIs w3 w.heap.size (.int .i64 0) (.int .i64 0) (.string ⟨#[]⟩) (.slice none 0 0) (.slice none 0 0) := K2.out.2.2.1.grown hg3 (by simp; omega)
    have HVV : VIs w3 (fun k => w.heap.size + 1 ≤ k) (f + 1) (leafV kk nn []) (leaf kk nn []) := leaf_is _ _ f _ _ _ hkk hnn (by simp)
    have HGG := gb_trans K2.out.2.1 hg3
    have HRR := hr3
    have HST2 := HSTF.out
    clear hst3 hr3 hg3
    unfold leaf str
    have FIN := hidI (val_fin (f := f) (a7 := none) (a8 := none) (c7 := 0) (c8 := 0) hbl HVV HST2 HRR HGG HBX)
    obtain ⟨x0, x1, x2, x3, x4, y0, y1, y2, y3, y4⟩ := HBX.c
    obtain ⟨z0, z1, z2, z3, z4, -⟩ := (HBX.set (.int .i64 kk) (.int .i64 nn) (.string ⟨#[]⟩) (.slice none 0 0) (.slice none 0 0)).c
    clear HVV HST2 HRR HGG HBX
    have Z : Hid (_ ∧ _ ∧ _ ∧ _ ∧ _) := ⟨z0, z1, z2, z3, z4⟩
    clear z0 z1 z2 z3 z4
    go_wp2_with fail
    obtain ⟨z0, z1, z2, z3, z4⟩ := Z.out
    refine bodyPost_ret (v := leaf kk nn []) ?_ rfl ?_
    · simp only [set5] at z0 z1 z2 z3 z4
      simp [results, Tryz.results63, go_sem, z0, z1, z2, z3, z4, leaf, leafV, str]
    · exact ⟨leafV kk nn [], st3, none, none, 0, 0, rfl, FIN.out.2.1, HSTF.out, FIN.out.2.2.1, FIN.out.2.2.2⟩
  have n102 := hd_ne (m := 102) rfl q102
  by_cases q116 : hd0 (st1.getD []) = 116
  · have d := hd_eq (m := 116) rfl q116
    have E : Hid (st1.bind (oneS (valS f)) = (st1.bind (wordS [116, 114, 117, 101])).map fun r => (leafV 1 1 [], r)) := by
      cases st1 with
      | none => rfl
      | some l =>
        have q : hd0 l = 116 := q116
        show oneS (valS f) l = _
        simp only [oneS, q]
        rfl
    go_wp2_with fail
    refine (word_st _ b s st1 ⟨#[116, 114, 117, 101]⟩ 1 1 (by unfold I64; omega) (by unfold I64; omega) (by decide) (by decide) (by exact K2.out.1)).mono ?_
    rintro e w3 ⟨t, v, st3, rfl, ⟨kk, nn, rfl, rfl, hkk, hnn⟩, hst3, hr3, hg3⟩
    have HSTF : Hid (st.bind (valS (f + 1)) = st3.map (fun l => (leafV kk nn [], l))) := by show _ = _; rw [N.out, E.out]; exact hst3
    have HBX : BoxIs w3 w.heap.size (.int .i64 0) (.int .i64 0) (.string ⟨#[]⟩) (.slice none 0 0) (.slice none 0 0) := K2.out.2.2.1.grown hg3 (by simp; omega)
    have HVV : VIs w3 (fun k => w.heap.size + 1 ≤ k) (f + 1) (leafV kk nn []) (leaf kk nn []) := leaf_is _ _ f _ _ _ hkk hnn (by simp)
    have HGG := gb_trans K2.out.2.1 hg3
    have HRR := hr3
    have HST2 := HSTF.out
    clear hst3 hr3 hg3
    unfold leaf str
    have FIN := hidI (val_fin (f := f) (a7 := none) (a8 := none) (c7 := 0) (c8 := 0) hbl HVV HST2 HRR HGG HBX)
    obtain ⟨x0, x1, x2, x3, x4, y0, y1, y2, y3, y4⟩ := HBX.c
    obtain ⟨z0, z1, z2, z3, z4, -⟩ := (HBX.set (.int .i64 kk) (.int .i64 nn) (.string ⟨#[]⟩) (.slice none 0 0) (.slice none 0 0)).c
    clear HVV HST2 HRR HGG HBX
    have Z : Hid (_ ∧ _ ∧ _ ∧ _ ∧ _) := ⟨z0, z1, z2, z3, z4⟩
    clear z0 z1 z2 z3 z4
    go_wp2_with fail
    obtain ⟨z0, z1, z2, z3, z4⟩ := Z.out
    refine bodyPost_ret (v := leaf kk nn []) ?_ rfl ?_
    · simp only [set5] at z0 z1 z2 z3 z4
      simp [results, Tryz.results63, go_sem, z0, z1, z2, z3, z4, leaf, leafV, str]
    · exact ⟨leafV kk nn [], st3, none, none, 0, 0, rfl, FIN.out.2.1, HSTF.out, FIN.out.2.2.1, FIN.out.2.2.2⟩
  have n116 := hd_ne (m := 116) rfl q116
  by_cases q34 : hd0 (st1.getD []) = 34
  · have d := hd_eq (m := 34) rfl q34
    have E : Hid (st1.bind (oneS (valS f)) = (st1.bind quotS).map fun p => (leafV 3 0 p.1, p.2)) := by
      cases st1 with
      | none => rfl
      | some l =>
        show oneS (valS f) l = _
        simp only [oneS, if_neg (show ¬ hd0 l = 110 from q110), if_neg (show ¬ hd0 l = 102 from q102), if_neg (show ¬ hd0 l = 116 from q116), if_pos (show hd0 l = 34 from q34)]
        rfl
    go_wp2_with fail
    refine (quoted_st _ b s st1 (by exact K2.out.1)).mono ?_
    rintro e w3 ⟨t, st3, rfl, hst3, hkl, hr3, hg3⟩
    have HSTF : Hid (st.bind (valS (f + 1)) = st3.map (fun l => (leafV 3 0 t, l))) := by
      show _ = _
      rw [N.out, E.out, hst3]; cases st3 <;> rfl
    have HBX : BoxIs w3 w.heap.size (.int .i64 0) (.int .i64 0) (.string ⟨#[]⟩) (.slice none 0 0) (.slice none 0 0) := K2.out.2.2.1.grown hg3 (by simp; omega)
    have HVV : VIs w3 (fun k => w.heap.size + 1 ≤ k) (f + 1) (leafV 3 0 t) (leaf 3 0 t) := leaf_is _ _ f _ _ _ (by unfold I64; omega) (by unfold I64; omega) (by unfold maxLen; omega)
    have HGG := gb_trans K2.out.2.1 hg3
    have HRR := hr3
    have HST2 := HSTF.out
    clear hst3 hr3 hg3
    have FIN := hidI (val_fin (f := f) (a7 := none) (a8 := none) (c7 := 0) (c8 := 0) hbl HVV HST2 HRR HGG HBX)
    obtain ⟨x0, x1, x2, x3, x4, y0, y1, y2, y3, y4⟩ := HBX.c
    obtain ⟨z0, z1, z2, z3, z4, -⟩ := (HBX.set (.int .i64 3) (.int .i64 0) (.string ⟨t.toArray⟩) (.slice none 0 0) (.slice none 0 0)).c
    clear HVV HST2 HRR HGG HBX
    have Z : Hid (_ ∧ _ ∧ _ ∧ _ ∧ _) := ⟨z0, z1, z2, z3, z4⟩
    clear z0 z1 z2 z3 z4
    go_wp2_with fail
    obtain ⟨z0, z1, z2, z3, z4⟩ := Z.out
    refine bodyPost_ret (v := leaf 3 0 t) ?_ rfl ?_
    · simp only [set5] at z0 z1 z2 z3 z4
      simp [results, Tryz.results63, go_sem, z0, z1, z2, z3, z4, leaf, str]
    · exact ⟨leafV 3 0 t, st3, none, none, 0, 0, rfl, FIN.out.2.1, HSTF.out, FIN.out.2.2.1, FIN.out.2.2.2⟩
  have n34 := hd_ne (m := 34) rfl q34
  by_cases q91 : hd0 (st1.getD []) = 91
  · have d := hd_eq (m := 91) rfl q91
    have E : Hid (st1.bind (oneS (valS f)) = st1.bind (listS (valS f))) := by
      cases st1 with
      | none => rfl
      | some l =>
        show oneS (valS f) l = _
        simp only [oneS, if_neg (show ¬ hd0 l = 110 from q110), if_neg (show ¬ hd0 l = 102 from q102), if_neg (show ¬ hd0 l = 116 from q116), if_neg (show ¬ hd0 l = 34 from q34), if_pos (show hd0 l = 91 from q91)]
        rfl
    have hf0 : 0 < f := by
      have := hlen2.out
      cases hs : st1.getD [] with
      | nil => rw [hs] at q91; simp [hd0] at q91
      | cons c r => rw [hs] at this; simp only [List.length_cons] at this; omega
    go_wp2_with fail
    refine (list_st f IH.out _ b s st1 (by exact K2.out.1) (by exact K2.out.2.2.2) hb4 hf0 hlen2.out).mono ?_
    rintro e w3 ⟨t, st3, a7, a8, c7, c8, rfl, hv3, hst3, hr3, hg3⟩
    have HSTF : Hid (st.bind (valS (f + 1)) = st3.map (fun l => (t, l))) := by
      show _ = _
      rw [N.out, E.out, hst3]
    have HBX : BoxIs w3 w.heap.size (.int .i64 0) (.int .i64 0) (.string ⟨#[]⟩) (.slice none 0 0) (.slice none 0 0) := K2.out.2.2.1.grown hg3 (by simp; omega)
    have HVV : VIs w3 (fun k => w.heap.size + 1 ≤ k) (f + 1) t (.agg #[.int .i64 t.kind, .int .i64 t.n, .string ⟨t.s.toArray⟩, .slice a7 t.keys.length c7, .slice a8 t.l.length c8]) := hv3.weak (fun k hk => by omega)
    have HGG := gb_trans K2.out.2.1 hg3
    have HRR := hr3
    have HST2 := HSTF.out
    clear hst3 hr3 hg3 hv3
    have FIN := hidI (val_fin (f := f) hbl HVV HST2 HRR HGG HBX)
    obtain ⟨x0, x1, x2, x3, x4, y0, y1, y2, y3, y4⟩ := HBX.c
    obtain ⟨z0, z1, z2, z3, z4, -⟩ := FIN.out.1.c
    clear HVV HST2 HRR HGG HBX
    have Z : Hid (_ ∧ _ ∧ _ ∧ _ ∧ _) := ⟨z0, z1, z2, z3, z4⟩
    clear z0 z1 z2 z3 z4
    go_wp2_with fail
    obtain ⟨z0, z1, z2, z3, z4⟩ := Z.out
    refine bodyPost_ret (v := (.agg #[.int .i64 t.kind, .int .i64 t.n, .string ⟨t.s.toArray⟩, .slice a7 t.keys.length c7, .slice a8 t.l.length c8])) ?_ rfl ?_
    · simp only [set5] at z0 z1 z2 z3 z4
      simp [results, Tryz.results63, go_sem, z0, z1, z2, z3, z4]
    · exact ⟨t, st3, a7, a8, c7, c8, rfl, FIN.out.2.1, HSTF.out, FIN.out.2.2.1, FIN.out.2.2.2⟩
  have n91 := hd_ne (m := 91) rfl q91
  by_cases q123 : hd0 (st1.getD []) = 123
  · have d := hd_eq (m := 123) rfl q123
    have E : Hid (st1.bind (oneS (valS f)) = st1.bind (objS (valS f))) := by
      cases st1 with
      | none => rfl
      | some l =>
        show oneS (valS f) l = _
        simp only [oneS, if_neg (show ¬ hd0 l = 110 from q110), if_neg (show ¬ hd0 l = 102 from q102), if_neg (show ¬ hd0 l = 116 from q116), if_neg (show ¬ hd0 l = 34 from q34), if_neg (show ¬ hd0 l = 91 from q91), if_pos (show hd0 l = 123 from q123)]
        rfl
    have hf0 : 0 < f := by
      have := hlen2.out
      cases hs : st1.getD [] with
      | nil => rw [hs] at q123; simp [hd0] at q123
      | cons c r => rw [hs] at this; simp only [List.length_cons] at this; omega
    go_wp2_with fail
    refine (object_st HW.out f IH.out _ b s st1 (by exact K2.out.1) (by exact K2.out.2.2.2) hb4 hf0 hlen2.out).mono ?_
    rintro e w3 ⟨t, st3, a7, a8, c7, c8, rfl, hv3, hst3, hr3, hg3⟩
    have HSTF : Hid (st.bind (valS (f + 1)) = st3.map (fun l => (t, l))) := by
      show _ = _
      rw [N.out, E.out, hst3]
    have HBX : BoxIs w3 w.heap.size (.int .i64 0) (.int .i64 0) (.string ⟨#[]⟩) (.slice none 0 0) (.slice none 0 0) := K2.out.2.2.1.grown hg3 (by simp; omega)
    have HVV : VIs w3 (fun k => w.heap.size + 1 ≤ k) (f + 1) t (.agg #[.int .i64 t.kind, .int .i64 t.n, .string ⟨t.s.toArray⟩, .slice a7 t.keys.length c7, .slice a8 t.l.length c8]) := hv3.weak (fun k hk => by omega)
    have HGG := gb_trans K2.out.2.1 hg3
    have HRR := hr3
    have HST2 := HSTF.out
    clear hst3 hr3 hg3 hv3
    have FIN := hidI (val_fin (f := f) hbl HVV HST2 HRR HGG HBX)
    obtain ⟨x0, x1, x2, x3, x4, y0, y1, y2, y3, y4⟩ := HBX.c
    obtain ⟨z0, z1, z2, z3, z4, -⟩ := FIN.out.1.c
    clear HVV HST2 HRR HGG HBX
    have Z : Hid (_ ∧ _ ∧ _ ∧ _ ∧ _) := ⟨z0, z1, z2, z3, z4⟩
    clear z0 z1 z2 z3 z4
    go_wp2_with fail
    obtain ⟨z0, z1, z2, z3, z4⟩ := Z.out
    refine bodyPost_ret (v := (.agg #[.int .i64 t.kind, .int .i64 t.n, .string ⟨t.s.toArray⟩, .slice a7 t.keys.length c7, .slice a8 t.l.length c8])) ?_ rfl ?_
    · simp only [set5] at z0 z1 z2 z3 z4
      simp [results, Tryz.results63, go_sem, z0, z1, z2, z3, z4]
    · exact ⟨t, st3, a7, a8, c7, c8, rfl, FIN.out.2.1, HSTF.out, FIN.out.2.2.1, FIN.out.2.2.2⟩
  have n123 := hd_ne (m := 123) rfl q123
  have E : Hid (st1.bind (oneS (valS f)) = (st1.bind numS).map fun p => (leafV 2 p.1 [], p.2)) := by
    cases st1 with
    | none => rfl
    | some l =>
      show oneS (valS f) l = _
      simp only [oneS, if_neg (show ¬ hd0 l = 110 from q110), if_neg (show ¬ hd0 l = 102 from q102), if_neg (show ¬ hd0 l = 116 from q116), if_neg (show ¬ hd0 l = 34 from q34), if_neg (show ¬ hd0 l = 91 from q91), if_neg (show ¬ hd0 l = 123 from q123)]
      rfl
  go_wp2_with fail
  refine (number_st _ b s st1 (by exact K2.out.1) (by exact K2.out.2.2.2) hb4).mono ?_
  rintro e w3 ⟨t, v, st3, rfl, ⟨kk, nn, rfl, rfl, hkk, hnn⟩, hst3, hr3, hg3⟩
  have HSTF : Hid (st.bind (valS (f + 1)) = st3.map (fun l => (leafV kk nn [], l))) := by show _ = _; rw [N.out, E.out]; exact hst3
  have HBX : BoxIs w3 w.heap.size (.int .i64 0) (.int .i64 0) (.string ⟨#[]⟩) (.slice none 0 0) (.slice none 0 0) := K2.out.2.2.1.grown hg3 (by simp; omega)
  have HVV : VIs w3 (fun k => w.heap.size + 1 ≤ k) (f + 1) (leafV kk nn []) (leaf kk nn []) := leaf_is _ _ f _ _ _ hkk hnn (by simp)
  have HGG := gb_trans K2.out.2.1 hg3
  have HRR := hr3
  have HST2 := HSTF.out
  clear hst3 hr3 hg3
  unfold leaf str
  have FIN := hidI (val_fin (f := f) (a7 := none) (a8 := none) (c7 := 0) (c8 := 0) hbl HVV HST2 HRR HGG HBX)
  obtain ⟨x0, x1, x2, x3, x4, y0, y1, y2, y3, y4⟩ := HBX.c
  obtain ⟨z0, z1, z2, z3, z4, -⟩ := (HBX.set (.int .i64 kk) (.int .i64 nn) (.string ⟨#[]⟩) (.slice none 0 0) (.slice none 0 0)).c
  clear HVV HST2 HRR HGG HBX
  have Z : Hid (_ ∧ _ ∧ _ ∧ _ ∧ _) := ⟨z0, z1, z2, z3, z4⟩
  clear z0 z1 z2 z3 z4
  go_wp2_with fail
  obtain ⟨z0, z1, z2, z3, z4⟩ := Z.out
  refine bodyPost_ret (v := leaf kk nn []) ?_ rfl ?_
  · simp only [set5] at z0 z1 z2 z3 z4
    simp [results, Tryz.results63, go_sem, z0, z1, z2, z3, z4, leaf, str]
  · exact ⟨leafV kk nn [], st3, none, none, 0, 0, rfl, FIN.out.2.1, HSTF.out, FIN.out.2.2.1, FIN.out.2.2.2⟩

theorem value_all (hW : WithC) (f : Nat) : ValC f := by
  induction f with
  | zero => intro w b s st h hG hb4 hlen; omega
  | succ f ih => exact value_succ hW f ih
end Go.Proofs.YtmdemcjmcnfjmaaGreatDoor

/- What Parse of package json does. -/
set_option linter.unusedSimpArgs false
set_option linter.unusedVariables false
namespace Go.Proofs.YtmdemcjmcnfjmaaGreatDoor
open Go.RowKit

theorem value_st (f : Nat) : ValC f := value_all with_all f
def parseV (l : List UInt8) : Option V := (valS (l.length + 1) l).bind fun p => if p.2.dropWhile isSp = [] ∧ goodV p.1 = true then some p.1 else none
def parseS (l : List UInt8) : V × Int := if 2000 < l.length then (leafV 0 0 [], 2) else match parseV l with | some t => (t, 0) | none => (leafV 0 0 [], 1)

set_option maxRecDepth 100000 in
set_option maxHeartbeats 4000000 in
theorem parse_at (w : World) (l : List UInt8) (hl : l.length ≤ maxLen) (hG : Glob w) :
    Calls Tryz.prog 30 #[str l] w fun e w' => ∃ (t : V) (ee : Int) (a7 a8 : Option Addr) (c7 c8 : Nat), e = .returned (.tuple #[(.agg #[.int .i64 t.kind, .int .i64 t.n, .string ⟨t.s.toArray⟩, .slice a7 t.keys.length c7, .slice a8 t.l.length c8]), .int .i64 ee]) ∧ parseS l = (t, ee) ∧ VIs w' (fun k => w.heap.size ≤ k) 2003 t (.agg #[.int .i64 t.kind, .int .i64 t.n, .string ⟨t.s.toArray⟩, .slice a7 t.keys.length c7, .slice a8 t.l.length c8]) ∧ Below w.heap.size w w' := by
  unfold maxLen at hl
  unfold str
  have HG := hidI hG
  clear hG
  by_cases h2 : 2000 < l.length
  · have e0 : 2000 < (l.length : Int) := by omega
    have PS : Hid (parseS l = (leafV 0 0 [], 2)) := hidI (by simp [parseS, h2])
    go_enter Tryz.func30, Tryz.ntmps30
    go_wp2_with fail
    refine bodyPost_ret (v := .tuple #[leaf 0 0 [], .int .i64 2]) (by simp [results, Tryz.results30, go_sem, leaf, str]) rfl ?_
    exact ⟨leafV 0 0 [], 2, none, none, 0, 0, rfl, PS.out, leaf_is _ _ 2002 _ _ _ (by unfold I64; omega) (by unfold I64; omega) (by simp), bel_alloc _ _⟩
  · have e0 : ¬ (2000 < (l.length : Int)) := by omega
    have PS0 : Hid (parseS l = match parseV l with | some t => (t, 0) | none => (leafV 0 0 [], 1)) := hidI (by simp only [parseS, if_neg h2])
    go_enter Tryz.func30, Tryz.ntmps30
    go_wp2_with fail
    have hrd : Hid (RdSt ((w.alloc zcells).alloc (.cells #[.string ⟨l.toArray⟩, .int .i64 0, .bool false] 97)) (w.heap.size + 1) ⟨l.toArray⟩ (some l)) := ⟨0, ⟨h2b w _ _, Nat.zero_le _, by simp [ByteArray.size]; omega⟩, by simp⟩
    have hG2 : Hid (Glob ((w.alloc zcells).alloc (.cells #[.string ⟨l.toArray⟩, .int .i64 0, .bool false] 97))) := HG.out.grown (gb_alloc (gb_alloc (gb_refl w none) _) _) (by simp)
    have hsz : 6 ≤ w.heap.size + 1 := by have := HG.out.size; omega
    refine (value_st (l.length + 1) _ (w.heap.size + 1) ⟨l.toArray⟩ (some l) (by exact hrd.out) (by exact hG2.out) hsz (by simp)).mono ?_
    rintro e w3 ⟨t, st3, a7, a8, c7, c8, rfl, hv3, hst3, hr3, hg3⟩
    have K3 : Hid (VIs w3 (fun k => w.heap.size + 2 ≤ k) (l.length + 1) t (.agg #[.int .i64 t.kind, .int .i64 t.n, .string ⟨t.s.toArray⟩, .slice a7 t.keys.length c7, .slice a8 t.l.length c8]) ∧ (some l).bind (valS (l.length + 1)) = st3.map (fun l => (t, l)) ∧ RdSt w3 (w.heap.size + 1) ⟨l.toArray⟩ st3 ∧ BoxIs w3 w.heap.size (.int .i64 0) (.int .i64 0) (.string ⟨#[]⟩) (.slice none 0 0) (.slice none 0 0) ∧ w.grownBy w3 none) :=
      ⟨by simpa using hv3, hst3, hr3, BoxIs.grown (h2a w _ _) hg3 (by simp), gb_out (gb_alloc (gb_alloc (gb_refl w none) _) _) hg3 (by omega)⟩
    have hsz3 : w.heap.size + 1 < w3.heap.size := hr3.lt
    clear hv3 hst3 hr3 hg3
    go_wp2_with fail
    refine (spaces_st _ (w.heap.size + 1) ⟨l.toArray⟩ st3 (by exact K3.out.2.2.1.grown (World.grownBy_alloc w3 _ none) (by simp))).mono ?_
    rintro e w4 ⟨rfl, hr4, hg4⟩
    have K4 : Hid (RdSt w4 (w.heap.size + 1) ⟨l.toArray⟩ (st3.map (List.dropWhile isSp)) ∧ BoxIs w4 w.heap.size (.int .i64 0) (.int .i64 0) (.string ⟨#[]⟩) (.slice none 0 0) (.slice none 0 0) ∧ BoxIs w4 w3.heap.size (.int .i64 t.kind) (.int .i64 t.n) (.string ⟨t.s.toArray⟩) (.slice a7 t.keys.length c7) (.slice a8 t.l.length c8) ∧ VIs w4 (fun k => w.heap.size + 2 ≤ k) (l.length + 1) t (.agg #[.int .i64 t.kind, .int .i64 t.n, .string ⟨t.s.toArray⟩, .slice a7 t.keys.length c7, .slice a8 t.l.length c8]) ∧ w.grownBy w4 none) :=
      ⟨hr4, (K3.out.2.2.2.1.grown (World.grownBy_alloc w3 _ none) (by simp)).grown hg4 (by simp), BoxIs.grown (heap_alloc_new w3 _) hg4 (by simp; omega), (K3.out.1.grown (World.grownBy_alloc w3 _ none) (by simp)).grown hg4 (fun k hk e => by simp at e; omega), gb_out (gb_alloc K3.out.2.2.2.2 _) hg4 (by omega)⟩
    clear hr4 hg4
    have hval : valS (l.length + 1) l = st3.map (fun l => (t, l)) := K3.out.2.1
    match st3, K3, K4, hval with
    | none, K3, K4, hval =>
      have PS : Hid (parseS l = (leafV 0 0 [], 1)) := hidI (by
        have : parseV l = none := by unfold parseV; rw [hval]; rfl
        rw [PS0.out, this])
      obtain ⟨-, -, c2, -, -⟩ := (RdAt.nil K4.out.1).c
      have EN : Hid (BoxIs w4 w.heap.size (.int .i64 0) (.int .i64 0) (.string ⟨#[]⟩) (.slice none 0 0) (.slice none 0 0) ∧ w.grownBy w4 none) := ⟨K4.out.2.1, K4.out.2.2.2.2⟩
      clear hval
      obtain ⟨x0, x1, x2, x3, x4, y0, y1, y2, y3, y4⟩ := EN.out.1.c
      obtain ⟨z0, z1, z2, z3, z4, -⟩ := (EN.out.1.set (.int .i64 0) (.int .i64 0) (.string ⟨#[]⟩) (.slice none 0 0) (.slice none 0 0)).c
      have Z : Hid (_ ∧ _ ∧ _ ∧ _ ∧ _) := ⟨z0, z1, z2, z3, z4⟩
      clear z0 z1 z2 z3 z4
      go_wp2_with fail
      obtain ⟨z0, z1, z2, z3, z4⟩ := Z.out
      refine bodyPost_ret (v := .tuple #[leaf 0 0 [], .int .i64 1]) ?_ rfl ?_
      · simp only [set5] at z0 z1 z2 z3 z4
        simp [results, Tryz.results30, go_sem, z0, z1, z2, z3, z4, leaf, str]
      · exact ⟨leafV 0 0 [], 1, none, none, 0, 0, rfl, PS.out, leaf_is _ _ 2002 _ _ _ (by unfold I64; omega) (by unfold I64; omega) (by simp), gb_none (gb_set5 EN.out.2 (Nat.le_refl _) _ _ _ _ _)⟩
    | some r, K3, K4, hval =>
      obtain ⟨i, hi, ei⟩ := K4.out.1
      obtain ⟨c0, c1, c2, -, -⟩ := hi.c
      have hile := hi.2.1
      have hel : (ByteArray.mk l.toArray).size = l.length := by simp [ByteArray.size]
      rw [hel] at hile
      have EI := hidI ei
      clear hi ei
      cases hd : r.dropWhile isSp with
      | cons x r2 =>
        have hlt : (i : Int) < (l.length : Int) := by
          have h9 := EI.out
          rw [show (some r).map (List.dropWhile isSp) = some (r.dropWhile isSp) from rfl, hd] at h9
          have := congrArg List.length h9
          simp at this
          omega
        have PS : Hid (parseS l = (leafV 0 0 [], 1)) := hidI (by
          have : parseV l = none := by unfold parseV; rw [hval]; simp [hd]
          rw [PS0.out, this])
        have EN : Hid (BoxIs w4 w.heap.size (.int .i64 0) (.int .i64 0) (.string ⟨#[]⟩) (.slice none 0 0) (.slice none 0 0) ∧ w.grownBy w4 none) := ⟨K4.out.2.1, K4.out.2.2.2.2⟩
        clear hval hd
        obtain ⟨x0, x1, x2, x3, x4, y0, y1, y2, y3, y4⟩ := EN.out.1.c
        obtain ⟨z0, z1, z2, z3, z4, -⟩ := (EN.out.1.set (.int .i64 0) (.int .i64 0) (.string ⟨#[]⟩) (.slice none 0 0) (.slice none 0 0)).c
        have Z : Hid (_ ∧ _ ∧ _ ∧ _ ∧ _) := ⟨z0, z1, z2, z3, z4⟩
        clear z0 z1 z2 z3 z4
        go_wp2_with fail
        obtain ⟨z0, z1, z2, z3, z4⟩ := Z.out
        refine bodyPost_ret (v := .tuple #[leaf 0 0 [], .int .i64 1]) ?_ rfl ?_
        · simp only [set5] at z0 z1 z2 z3 z4
          simp [results, Tryz.results30, go_sem, z0, z1, z2, z3, z4, leaf, str]
        · exact ⟨leafV 0 0 [], 1, none, none, 0, 0, rfl, PS.out, leaf_is _ _ 2002 _ _ _ (by unfold I64; omega) (by unfold I64; omega) (by simp), gb_none (gb_set5 EN.out.2 (Nat.le_refl _) _ _ _ _ _)⟩
      | nil =>
        have hge : ¬ ((i : Int) < (l.length : Int)) := by
          have h9 := EI.out
          rw [show (some r).map (List.dropWhile isSp) = some (r.dropWhile isSp) from rfl, hd] at h9
          have := congrArg List.length h9
          simp at this
          omega
        obtain ⟨p0, p1, p2, p3, p4, -⟩ := K4.out.2.2.1.c
        cases hgd : goodV t with
        | true =>
          have PS : Hid (parseS l = (t, 0)) := hidI (by
            have : parseV l = some t := by unfold parseV; rw [hval]; simp [hd, hgd]
            rw [PS0.out, this])
          have HGD := hidI hgd
          clear hval hd hgd
          go_wp2_with fail
          refine (Good_at _ _ _ t _ (by exact K4.out.2.2.2.1)).mono ?_
          rintro e w5 ⟨rfl, hb5⟩
          rw [HGD.out]
          have K5 : Hid (BoxIs w5 w.heap.size (.int .i64 0) (.int .i64 0) (.string ⟨#[]⟩) (.slice none 0 0) (.slice none 0 0) ∧ BoxIs w5 w3.heap.size (.int .i64 t.kind) (.int .i64 t.n) (.string ⟨t.s.toArray⟩) (.slice a7 t.keys.length c7) (.slice a8 t.l.length c8) ∧ VIs w5 (fun k => w.heap.size + 2 ≤ k) (l.length + 1) t (.agg #[.int .i64 t.kind, .int .i64 t.n, .string ⟨t.s.toArray⟩, .slice a7 t.keys.length c7, .slice a8 t.l.length c8]) ∧ w.grownBy w5 none) := ⟨box_bel hb5 K4.out.2.1, box_bel hb5 K4.out.2.2.1, K4.out.2.2.2.1.bel hb5, gb_trans K4.out.2.2.2.2 (gb_below hb5)⟩
          clear hb5 p0 p1 p2 p3 p4 c0 c1 c2
          obtain ⟨p0, p1, p2, p3, p4, -⟩ := K5.out.2.1.c
          obtain ⟨x0, x1, x2, x3, x4, y0, y1, y2, y3, y4⟩ := K5.out.1.c
          obtain ⟨z0, z1, z2, z3, z4, -⟩ := (K5.out.1.set (.int .i64 t.kind) (.int .i64 t.n) (.string ⟨t.s.toArray⟩) (.slice a7 t.keys.length c7) (.slice a8 t.l.length c8)).c
          have Z : Hid (_ ∧ _ ∧ _ ∧ _ ∧ _) := ⟨z0, z1, z2, z3, z4⟩
          clear z0 z1 z2 z3 z4
          go_wp2_with fail
          obtain ⟨z0, z1, z2, z3, z4⟩ := Z.out
          refine bodyPost_ret (v := .tuple #[(.agg #[.int .i64 t.kind, .int .i64 t.n, .string ⟨t.s.toArray⟩, .slice a7 t.keys.length c7, .slice a8 t.l.length c8]), .int .i64 0]) ?_ rfl ?_
          · simp only [set5] at z0 z1 z2 z3 z4
            simp [results, Tryz.results30, go_sem, z0, z1, z2, z3, z4]
          · refine ⟨t, 0, a7, a8, c7, c8, rfl, PS.out, ?_, gb_none (gb_set5 K5.out.2.2.2 (Nat.le_refl _) _ _ _ _ _)⟩
            exact ((K5.out.2.2.1.grown (set5_gb w5 w.heap.size (.int .i64 t.kind) (.int .i64 t.n) (.string ⟨t.s.toArray⟩) (.slice a7 t.keys.length c7) (.slice a8 t.l.length c8)) (fun k hk e => by simp at e; omega)).weak (fun k hk => by omega)).le (by omega)
        | false =>
          have PS : Hid (parseS l = (leafV 0 0 [], 1)) := hidI (by
            have : parseV l = none := by unfold parseV; rw [hval]; simp [hgd]
            rw [PS0.out, this])
          have HGD := hidI hgd
          clear hval hd hgd
          go_wp2_with fail
          refine (Good_at _ _ _ t _ (by exact K4.out.2.2.2.1)).mono ?_
          rintro e w5 ⟨rfl, hb5⟩
          rw [HGD.out]
          have EN : Hid (BoxIs w5 w.heap.size (.int .i64 0) (.int .i64 0) (.string ⟨#[]⟩) (.slice none 0 0) (.slice none 0 0) ∧ w.grownBy w5 none) := ⟨box_bel hb5 K4.out.2.1, gb_trans K4.out.2.2.2.2 (gb_below hb5)⟩
          clear hb5 p0 p1 p2 p3 p4 c0 c1 c2
          obtain ⟨x0, x1, x2, x3, x4, y0, y1, y2, y3, y4⟩ := EN.out.1.c
          obtain ⟨z0, z1, z2, z3, z4, -⟩ := (EN.out.1.set (.int .i64 0) (.int .i64 0) (.string ⟨#[]⟩) (.slice none 0 0) (.slice none 0 0)).c
          have Z : Hid (_ ∧ _ ∧ _ ∧ _ ∧ _) := ⟨z0, z1, z2, z3, z4⟩
          clear z0 z1 z2 z3 z4
          go_wp2_with fail
          obtain ⟨z0, z1, z2, z3, z4⟩ := Z.out
          refine bodyPost_ret (v := .tuple #[leaf 0 0 [], .int .i64 1]) ?_ rfl ?_
          · simp only [set5] at z0 z1 z2 z3 z4
            simp [results, Tryz.results30, go_sem, z0, z1, z2, z3, z4, leaf, str]
          · exact ⟨leafV 0 0 [], 1, none, none, 0, 0, rfl, PS.out, leaf_is _ _ 2002 _ _ _ (by unfold I64; omega) (by unfold I64; omega) (by simp), gb_none (gb_set5 EN.out.2 (Nat.le_refl _) _ _ _ _ _)⟩
end Go.Proofs.YtmdemcjmcnfjmaaGreatDoor

/- What owns of package keep answers. -/
set_option linter.unusedSimpArgs false
set_option linter.unusedVariables false
namespace Go.Proofs.YtmdemcjmcnfjmaaGreatDoor
open Go.RowKit

def wantT : V := ⟨5, 0, [], [[97], [98]], [⟨2, 1, [], [], []⟩, ⟨5, 0, [], [[99]], [⟨2, 2, [], [], []⟩]⟩]⟩
theorem want_parse : parseS [123, 34, 97, 34, 58, 49, 44, 34, 98, 34, 58, 123, 34, 99, 34, 58, 50, 125, 125] = (wantT, 0) := by kernel_rfl
theorem want_good : goodV wantT = true := by kernel_rfl
theorem obj_good : goodV objT = true := by kernel_rfl
theorem want_leaves : leavesF wantT = [[47, 97], [47, 98, 47, 99]] := by kernel_rfl
theorem want_laid : laidAllF wantT [[47, 97], [47, 98, 47, 99]] objT = wantT := by kernel_rfl
theorem want_apply : applyF objT [] [109, 101] wantT false = (wantT, [⟨[109, 101], [[47, 97], [47, 98, 47, 99]]⟩], [], 0) := by
  have e1 : othersF objT wantT [] [109, 101] = [] := rfl
  have e2 : resultF objT wantT [] [109, 101] = wantT := by
    show laidAllF wantT (leavesF wantT) (clearedF (leavesF wantT) (othersF objT wantT [] [109, 101]) [] objT) = wantT
    rw [want_leaves]
    exact want_laid
  have e3 : withOwnF [] ⟨[109, 101], [[47, 97], [47, 98, 47, 99]]⟩ = [⟨[109, 101], [[47, 97], [47, 98, 47, 99]]⟩] := rfl
  unfold applyF
  rw [if_pos ⟨⟨rfl, obj_good⟩, ⟨rfl, want_good⟩, by kernel_rfl, by kernel_rfl⟩, if_neg (fun h => h.1 rfl), e1, e2, want_leaves, e3, if_pos ⟨want_good, by simp⟩]
theorem in_obj (w : World) (ok : Nat → Prop) : In w ok objT (.agg #[.int .i64 5, .int .i64 0, .string ⟨#[]⟩, .slice none 0 0, .slice none 0 0]) := ⟨1, _, _, rfl, by unfold I64; simp [objT], by unfold I64; simp [objT], by simp [objT, maxLen], ⟨by simp [objT, maxLen], .inl ⟨rfl, none, rfl⟩⟩, ⟨by simp [objT, maxLen], .inl ⟨rfl, none, rfl⟩⟩⟩
set_option maxRecDepth 100000 in
set_option maxHeartbeats 4000000 in
theorem owns_at (w : World) (hG : Glob w) (hM : GlobM w) : Calls Tryz.prog 7 #[] w fun e w' => e = .returned (.bool true) ∧ Below w.heap.size w w' := by
  have HM := hidI hM
  have PC : Hid (Calls Tryz.prog 30 #[.string ⟨#[123, 34, 97, 34, 58, 49, 44, 34, 98, 34, 58, 123, 34, 99, 34, 58, 50, 125, 125]⟩] w fun e w' => ∃ (a7 a8 : Option Addr) (c7 c8 : Nat), e = .returned (.tuple #[(.agg #[.int .i64 wantT.kind, .int .i64 wantT.n, .string ⟨wantT.s.toArray⟩, .slice a7 wantT.keys.length c7, .slice a8 wantT.l.length c8]), .int .i64 0]) ∧ In w' (fun _ => True) wantT (.agg #[.int .i64 wantT.kind, .int .i64 wantT.n, .string ⟨wantT.s.toArray⟩, .slice a7 wantT.keys.length c7, .slice a8 wantT.l.length c8]) ∧ Below w.heap.size w w') := hidI (by
    refine (parse_at w [123, 34, 97, 34, 58, 49, 44, 34, 98, 34, 58, 123, 34, 99, 34, 58, 50, 125, 125] (by simp [maxLen]) hG).mono ?_
    rintro e w' ⟨t, ee, a7, a8, c7, c8, rfl, hp, hv, hb⟩
    rw [want_parse] at hp
    cases hp
    exact ⟨a7, a8, c7, c8, rfl, ⟨_, hv.imp fun a x _ h => ⟨trivial, h⟩⟩, hb⟩)
  generalize hT : wantT = T at PC
  have HT := hidI hT
  clear hG hM hT
  go_enter Tryz.func7, Tryz.ntmps7
  go_upto_region 2 with (go_at_call 30; refine PC.out.mono ?_; rintro e w1 ⟨a7, a8, c7, c8, rfl, hi, hb⟩; have B1 := hidI hb; have I1 := hidI hi; clear hi hb)
  obtain ⟨W2, hW2⟩ : ∃ W, W = w1.alloc (.cells #[.int .i64 T.kind, .int .i64 T.n, .string ⟨T.s.toArray⟩, .slice a7 T.keys.length c7, .slice a8 T.l.length c8] 25) := ⟨_, rfl⟩
  have Y2 : Hid (Below w1.heap.size w1 W2) := hidI (by rw [hW2]; exact bel_alloc _ _)
  have X2 : Hid (BoxIs W2 w1.heap.size (.int .i64 T.kind) (.int .i64 T.n) (.string ⟨T.s.toArray⟩) (.slice a7 T.keys.length c7) (.slice a8 T.l.length c8)) := hidI (by rw [hW2]; exact heap_alloc_new _ _)
  rw [← hW2]
  clear hW2
  have B2 := hidI (bel_trans B1.out Y2.out)
  obtain ⟨p0, p1, p2, p3, p4, -⟩ := X2.out.c
  have AP : Hid (Calls Tryz.prog 6 #[.agg #[.int .i64 5, .int .i64 0, .string ⟨#[]⟩, .slice none 0 0, .slice none 0 0], .slice none 0 0, .string ⟨#[109, 101]⟩, .agg #[.int .i64 T.kind, .int .i64 T.n, .string ⟨T.s.toArray⟩, .slice a7 T.keys.length c7, .slice a8 T.l.length c8], .bool false] W2 fun e w' => ∃ (a9 b9 : Option Addr) (c9 d9 : Nat) (b off oc pb po pc : Nat) (rc : Value),
      e = .returned (.tuple #[.agg #[.int .i64 T.kind, .int .i64 T.n, .string ⟨T.s.toArray⟩, .slice a9 T.keys.length c9, .slice b9 T.l.length d9], .slice (some ⟨b, off, none⟩) 1 oc, rc, .int .i64 0]) ∧ In w' (fun _ => True) T (.agg #[.int .i64 T.kind, .int .i64 T.n, .string ⟨T.s.toArray⟩, .slice a9 T.keys.length c9, .slice b9 T.l.length d9]) ∧
      w'.cell? ⟨b, off + 1, none⟩ = some (.slice (some ⟨pb, po, none⟩) 2 pc) ∧ w'.cell? ⟨pb, po + 1, none⟩ = some (.string ⟨#[47, 98, 47, 99]⟩) ∧ Below W2.heap.size W2 w') := hidI (by
    refine (apply_at W2 (fun _ => True) objT T [] [109, 101] false _ _ _ (in_obj _ _) (OwnsAre.nil _ _) (I1.out.bel Y2.out) (HM.out.bel B2.out) (by simp [allOf]) (by simp) (by simp)).mono ?_
    rintro e w' ⟨r, ro, rc, rfl, h1, h2, -, hb⟩
    rw [← HT.out, want_apply] at h1 h2 ⊢
    rw [HT.out] at h1
    obtain ⟨a9, b9, c9, d9, rfl⟩ := h1.form
    obtain ⟨oa, oc, rfl⟩ := h2.form
    obtain ⟨b, off, pa, pc, rfl, -, -, -, k2, k3, -⟩ := h2.at (k := 0) (by simp)
    obtain ⟨pb, po, rfl, -, -, k4⟩ := strs_at k3 (k := 1) (by simp)
    rw [HT.out]
    exact ⟨a9, b9, c9, d9, b, off, oc, pb, po, pc, rc, rfl, h1.weak fun _ _ => trivial, by simpa using k2, k4, hb⟩)
  go_upto_region 3 with (go_at_call 6; refine AP.out.mono ?_; rintro e w3 ⟨a9, b9, c9, d9, b, off, oc, pb, po, pc, rc, rfl, h1, h2, h3, hb⟩; have K2 := hidI h2; have K3 := hidI h3; have I3 := hidI h1; have B3 := hidI hb; clear h1 h2 h3 hb)
  clear p0 p1 p2 p3 p4
  obtain ⟨W4, hW4⟩ : ∃ W, W = w3.alloc (.cells #[.int .i64 T.kind, .int .i64 T.n, .string ⟨T.s.toArray⟩, .slice a9 T.keys.length c9, .slice b9 T.l.length d9] 25) := ⟨_, rfl⟩
  have Y4 : Hid (Below w3.heap.size w3 W4) := hidI (by rw [hW4]; exact bel_alloc _ _)
  have X4 : Hid (BoxIs W4 w3.heap.size (.int .i64 T.kind) (.int .i64 T.n) (.string ⟨T.s.toArray⟩) (.slice a9 T.keys.length c9) (.slice b9 T.l.length d9)) := hidI (by rw [hW4]; exact heap_alloc_new _ _)
  rw [← hW4]
  clear hW4
  have q0 := cell_bel Y4.out K2.out
  have q1 := cell_bel Y4.out K3.out
  obtain ⟨p0, p1, p2, p3, p4, -⟩ := X4.out.c
  obtain ⟨o0, o1, o2, o3, o4, -⟩ := (box_bel (bel_trans B3.out Y4.out) X2.out).c
  have B4 := hidI (bel_trans (bel_trans B2.out B3.out) Y4.out)
  have SM := hidI (same_run W4 _ _ T T _ _ (I3.out.bel Y4.out) (((I1.out.bel Y2.out).bel B3.out).bel Y4.out) (by rw [← HT.out]; have := nice_cnt (nice_of want_good); omega))
  go_wp2_with (go_at_call 31; refine SM.out.mono ?_; rintro e w5 ⟨r, rfl, hr, hb⟩; have hrt := hr.2 rfl; subst hrt; have B5 := hidI (bel_trans B4.out hb); clear hr hb)
  go_ret
  exact ⟨rfl, B5.out⟩
end Go.Proofs.YtmdemcjmcnfjmaaGreatDoor

/- What same of package stairwellkeep does. -/
set_option linter.unusedSimpArgs false
set_option linter.unusedVariables false
namespace Go.Proofs.YtmdemcjmcnfjmaaGreatDoor
open Go.RowKit

def SameC (d : Nat) : Prop := ∀ (w : World) (ok ok' : Nat → Prop) (a b : V) (va vb : Value), VIs w ok d a va → VIs w ok' d b vb →
    Calls Tryz.prog 8 #[va, vb] w fun e w' => e = .returned (.bool (sameS d a b)) ∧ Below w.heap.size w w'

set_option maxRecDepth 100000 in
set_option maxHeartbeats 8000000 in
theorem same_succ (d : Nat) (ih : SameC d) : SameC (d + 1) := by
  intro w ok ok' a b va vb ha hb
  obtain ⟨a1, a2, c1, c2, rfl⟩ := ha.shape
  obtain ⟨b1, b2, d1, d2, rfl⟩ := hb.shape
  have IH := hidI ih
  have lA : a.keys.length ≤ maxLen ∧ a.l.length ≤ maxLen := by obtain ⟨ks, ls, e, h1, h2, h3, h4, h5⟩ := ha; exact ⟨h4.1, h5.1⟩
  have lB : b.keys.length ≤ maxLen ∧ b.l.length ≤ maxLen := by obtain ⟨ks, ls, e, h1, h2, h3, h4, h5⟩ := hb; exact ⟨h4.1, h5.1⟩
  unfold maxLen at lA lB
  obtain ⟨lA1, lA2⟩ := lA
  obtain ⟨lB1, lB2⟩ := lB
  have HA := hidI ha
  have HB := hidI hb
  clear ha hb ih
  by_cases hk : ¬ (a.kind = b.kind)
  · have F : Hid (sameS (d + 1) a b = false) := hidI (by simp [sameS, hk])
    have Ehk : (a.kind == b.kind) = false := by rw [beq_eq_false_iff_ne]; exact hk
    have Nhk : (a.kind != b.kind) = true := by simp [bne, Ehk]
    go_enter Tryz.func8, Tryz.ntmps8
    go_wp2_with fail
    all_goals
      go_ret
      rw [F.out]
      exact ⟨rfl, bel_trans (bel_alloc _ _) (bel_alloc _ _)⟩
  rw [Decidable.not_not] at hk
  by_cases hn : ¬ (a.n = b.n)
  · have F : Hid (sameS (d + 1) a b = false) := hidI (by simp [sameS, hn])
    have Ehk : (a.kind == b.kind) = true := by rw [beq_iff_eq]; exact hk
    have Ehn : (a.n == b.n) = false := by rw [beq_eq_false_iff_ne]; exact hn
    have Nhn : (a.n != b.n) = true := by simp [bne, Ehn]
    clear hk
    go_enter Tryz.func8, Tryz.ntmps8
    go_wp2_with fail
    all_goals
      go_ret
      rw [F.out]
      exact ⟨rfl, bel_trans (bel_alloc _ _) (bel_alloc _ _)⟩
  rw [Decidable.not_not] at hn
  by_cases hs : ¬ (a.s = b.s)
  · have F : Hid (sameS (d + 1) a b = false) := hidI (by simp [sameS, hs])
    have Ehk : (a.kind == b.kind) = true := by rw [beq_iff_eq]; exact hk
    have Ehn : (a.n == b.n) = true := by rw [beq_iff_eq]; exact hn
    have Ehs : (ByteArray.mk a.s.toArray == ByteArray.mk b.s.toArray) = false := ba_ne (by simpa using hs)
    have Nhs : (ByteArray.mk a.s.toArray != ByteArray.mk b.s.toArray) = true := by simp [bne, Ehs]
    clear hk hn
    go_enter Tryz.func8, Tryz.ntmps8
    go_wp2_with fail
    all_goals
      go_ret
      rw [F.out]
      exact ⟨rfl, bel_trans (bel_alloc _ _) (bel_alloc _ _)⟩
  rw [Decidable.not_not] at hs
  by_cases hkl : ¬ (a.keys.length = b.keys.length)
  · have hkx : a.keys ≠ b.keys := fun e => hkl (by rw [e])
    have F : Hid (sameS (d + 1) a b = false) := hidI (by simp [sameS, hkx])
    have Ehk : (a.kind == b.kind) = true := by rw [beq_iff_eq]; exact hk
    have Ehn : (a.n == b.n) = true := by rw [beq_iff_eq]; exact hn
    have Ehs : (ByteArray.mk a.s.toArray == ByteArray.mk b.s.toArray) = true := ba_eq (by simpa using hs)
    have Ehkl : ((a.keys.length : Int) == (b.keys.length : Int)) = false := by rw [beq_eq_false_iff_ne]; omega
    have Nhkl : ((a.keys.length : Int) != (b.keys.length : Int)) = true := by simp only [bne, Ehkl, Bool.not_false]
    clear hkx
    clear hk hn hs
    go_enter Tryz.func8, Tryz.ntmps8
    go_wp2_with fail
    all_goals
      go_ret
      rw [F.out]
      exact ⟨rfl, bel_trans (bel_alloc _ _) (bel_alloc _ _)⟩
  rw [Decidable.not_not] at hkl
  by_cases hll : ¬ (a.l.length = b.l.length)
  · have F : Hid (sameS (d + 1) a b = false) := hidI (by simp [sameS, hll])
    have Ehk : (a.kind == b.kind) = true := by rw [beq_iff_eq]; exact hk
    have Ehn : (a.n == b.n) = true := by rw [beq_iff_eq]; exact hn
    have Ehs : (ByteArray.mk a.s.toArray == ByteArray.mk b.s.toArray) = true := ba_eq (by simpa using hs)
    have Ehkl : ((a.keys.length : Int) == (b.keys.length : Int)) = true := by rw [beq_iff_eq]; omega
    have Ehll : ((a.l.length : Int) == (b.l.length : Int)) = false := by rw [beq_eq_false_iff_ne]; omega
    have Nhll : ((a.l.length : Int) != (b.l.length : Int)) = true := by simp only [bne, Ehll, Bool.not_false]
    clear hk hn hs hkl
    go_enter Tryz.func8, Tryz.ntmps8
    go_wp2_with fail
    all_goals
      go_ret
      rw [F.out]
      exact ⟨rfl, bel_trans (bel_alloc _ _) (bel_alloc _ _)⟩
  rw [Decidable.not_not] at hll
  have FS : Hid (sameS (d + 1) a b = (decide (a.keys = b.keys) && allS (sameS d) a.l b.l)) := hidI (by simp [sameS, hk, hn, hs, hll])
  have HKL := hidI hkl
  have HLL := hidI hll
  rw [← hk, ← hn, ← hs, ← hkl, ← hll] at HB ⊢
  have es : (ByteArray.mk a.s.toArray == ByteArray.mk a.s.toArray) = true := ba_eq rfl
  have I0 : Hid (SameI w ((w.alloc (.cells #[.int .i64 a.kind, .int .i64 a.n, .string ⟨a.s.toArray⟩, .slice a1 a.keys.length c1, .slice a2 a.l.length c2] 25)).alloc (.cells #[.int .i64 a.kind, .int .i64 a.n, .string ⟨a.s.toArray⟩, .slice b1 a.keys.length d1, .slice b2 a.l.length d2] 25)) ok ok' (d + 1) a b a.kind a.n a.s a.keys.length a.l.length a1 a2 b1 b2 c1 c2 d1 d2) :=
    ⟨h2a w _ _, h2b w _ _, HA.out.bel (bel_trans (bel_alloc _ _) (bel_alloc _ _)), HB.out.bel (bel_trans (bel_alloc _ _) (bel_alloc _ _)), bel_trans (bel_alloc _ _) (bel_alloc _ _)⟩
  clear hk hn hs hkl hll
  go_enter Tryz.func8, Tryz.ntmps8
  go_wp2_with fail
  go_loopg [47] a.keys.length (fun gk i wr => ∃ (k : Nat), k ≤ a.keys.length ∧ gk = a.keys.length - k ∧ i = .int .i64 k ∧ (∀ j, j < k → a.keys[j]? = b.keys[j]?) ∧ SameI w wr ok ok' (d + 1) a b a.kind a.n a.s a.keys.length a.l.length a1 a2 b1 b2 c1 c2 d1 d2)
  case atStart => exact ⟨0, Nat.zero_le _, rfl, rfl, fun j hj => absurd hj (by omega), I0.out⟩
  case round =>
    obtain ⟨k, hk, hgk, rfl, hke, hI⟩ := hrel
    have A := hidI (And.intro hke hI)
    obtain ⟨x0, x1, x2, x3, x4, -⟩ := hI.1.c
    obtain ⟨y0, y1, y2, y3, y4, -⟩ := hI.2.1.c
    clear hke
    by_cases hlt : k < a.keys.length
    · have hlt2 : k < b.keys.length := by rw [← HKL.out]; exact hlt
      obtain ⟨g1, o1, rfl, z1, z2, z3⟩ : ∃ g1 o1, a1 = some ⟨g1, o1, none⟩ ∧ a.keys.length ≤ c1 ∧ c1 ≤ maxLen ∧ wr.cell? ⟨g1, o1 + k, none⟩ = some (.string ⟨a.keys[k].toArray⟩) := by
        obtain ⟨ks, ls, e, -, -, -, h4, -⟩ := hI.2.2.1
        simp only [Value.agg.injEq, Array.mk.injEq, List.cons.injEq, and_true] at e
        obtain ⟨-, -, -, rfl, -⟩ := e
        exact strs_at h4 hlt
      obtain ⟨g2, o2, rfl, z4, z5, z6⟩ : ∃ g2 o2, b1 = some ⟨g2, o2, none⟩ ∧ b.keys.length ≤ d1 ∧ d1 ≤ maxLen ∧ wr.cell? ⟨g2, o2 + k, none⟩ = some (.string ⟨b.keys[k].toArray⟩) := by
        obtain ⟨ks, ls, e, -, -, -, h4, -⟩ := hI.2.2.2.1
        simp only [Value.agg.injEq, Array.mk.injEq, List.cons.injEq, and_true] at e
        obtain ⟨-, -, -, rfl, -⟩ := e
        exact strs_at h4 hlt2
      unfold maxLen at z2 z5
      clear hI
      by_cases hq : a.keys[k] = b.keys[k]
      · rw [← hq] at z6
        have q1 : (ByteArray.mk a.keys[k].toArray == ByteArray.mk a.keys[k].toArray) = true := ba_eq rfl
        have HQ := hidI hq
        clear hq
        go_wp2_with fail
        go_quiet (fail)
        go_wp2_with fail
        go_roundg (a.keys.length - (k + 1))
        case measure => omega
        case rel =>
          refine ⟨k + 1, hlt, rfl, by go_num, ?_, A.out.2.drewN _⟩
          intro j hj
          by_cases hjk : j < k
          · exact A.out.1 j hjk
          · have : j = k := by omega
            subst this
            rw [List.getElem?_eq_getElem hlt, List.getElem?_eq_getElem hlt2, HQ.out]
      · have q1 : (ByteArray.mk a.keys[k].toArray == ByteArray.mk b.keys[k].toArray) = false := ba_ne (by simpa using hq)
        have q2 : (a.keys[k] == b.keys[k]) = false := by rw [beq_eq_false_iff_ne]; exact hq
        have HQ := hidI hq
        clear hq
        go_wp2_with fail
        go_quiet (fail)
        go_wp2_with fail
        go_ret
        refine ⟨?_, (A.out.2.drewN _).2.2.2.2⟩
        have hne : a.keys ≠ b.keys := by
          intro e
          apply HQ.out
          have := congrArg (fun l => l[k]?) e
          simp only [List.getElem?_eq_getElem hlt, List.getElem?_eq_getElem hlt2, Option.some.injEq] at this
          exact this
        rw [FS.out]
        simp [hne]
    · have hke : Hid (a.keys = b.keys) := hidI (by
        apply List.ext_getElem?
        intro j
        by_cases hj : j < k
        · exact A.out.1 j hj
        · have h1 : a.keys.length ≤ j := by omega
          rw [List.getElem?_eq_none h1, List.getElem?_eq_none (by rw [← HKL.out]; exact h1)])
      have AI := hidI A.out.2
      clear hI A x0 x1 x2 x3 x4 y0 y1 y2 y3 y4
      obtain ⟨x0, x1, x2, x3, x4, -⟩ := AI.out.1.c
      obtain ⟨y0, y1, y2, y3, y4, -⟩ := AI.out.2.1.c
      go_wp2_with fail
      go_loopg [65] a.l.length (fun gk i wr => ∃ (k : Nat), k ≤ a.l.length ∧ gk = a.l.length - k ∧ i = .int .i64 k ∧ (∀ (j : Nat) (x y : V), j < k → a.l[j]? = some x → b.l[j]? = some y → sameS d x y = true) ∧ SameI w wr ok ok' (d + 1) a b a.kind a.n a.s a.keys.length a.l.length a1 a2 b1 b2 c1 c2 d1 d2)
      case atStart => exact ⟨0, Nat.zero_le _, rfl, rfl, fun j x y hj => absurd hj (by omega), AI.out⟩
      case round =>
        obtain ⟨k', hk', hgk', rfl, hall, hI⟩ := hrel
        have A := hidI (And.intro hall hI)
        clear hall x0 x1 x2 x3 x4 y0 y1 y2 y3 y4
        by_cases hlt' : k' < a.l.length
        · have hltb : k' < b.l.length := by rw [← HLL.out]; exact hlt'
          obtain ⟨g1, o1, rfl, z1, z2, a5, c5, a6, c6, p0, p1, p2, p3, p4, p5⟩ : ∃ g1 o1, a2 = some ⟨g1, o1, none⟩ ∧ a.l.length ≤ c2 ∧ c2 ≤ maxLen ∧ _ := by
            obtain ⟨ks, ls, e, -, -, -, -, h5⟩ := hI.2.2.1
            simp only [Value.agg.injEq, Array.mk.injEq, List.cons.injEq, and_true] at e
            obtain ⟨-, -, -, -, rfl⟩ := e
            exact vals_at h5 hlt'
          obtain ⟨g2, o2, rfl, z4, z5, a5', c5', a6', c6', q0, q1, q2, q3, q4, q5⟩ : ∃ g2 o2, b2 = some ⟨g2, o2, none⟩ ∧ b.l.length ≤ d2 ∧ d2 ≤ maxLen ∧ _ := by
            obtain ⟨ks, ls, e, -, -, -, -, h5⟩ := hI.2.2.2.1
            simp only [Value.agg.injEq, Array.mk.injEq, List.cons.injEq, and_true] at e
            obtain ⟨-, -, -, -, rfl⟩ := e
            exact vals_at h5 hltb
          unfold maxLen at z2 z5
          have x4 := hI.1.c.2.2.2.2.1
          have y4 := hI.2.1.c.2.2.2.2.1
          have CALL : Hid (∀ w', Below wr.heap.size wr w' → Calls Tryz.prog 8 #[.agg #[.int .i64 a.l[k'].kind, .int .i64 a.l[k'].n, .string ⟨a.l[k'].s.toArray⟩, .slice a5 a.l[k'].keys.length c5, .slice a6 a.l[k'].l.length c6], .agg #[.int .i64 b.l[k'].kind, .int .i64 b.l[k'].n, .string ⟨b.l[k'].s.toArray⟩, .slice a5' b.l[k'].keys.length c5', .slice a6' b.l[k'].l.length c6']] w' fun e w3 => e = .returned (.bool (sameS d a.l[k'] b.l[k'])) ∧ Below wr.heap.size wr w3 ∧
              w3.cell? ⟨w.heap.size, 4, none⟩ = some (.slice (some ⟨g1, o1, none⟩) a.l.length c2) ∧ w3.cell? ⟨w.heap.size + 1, 4, none⟩ = some (.slice (some ⟨g2, o2, none⟩) a.l.length d2) ∧
              w3.cell? ⟨g1, o1 + k' * 5, none⟩ = some (.int .i64 a.l[k'].kind) ∧ w3.cell? ⟨g1, o1 + k' * 5 + 1, none⟩ = some (.int .i64 a.l[k'].n) ∧ w3.cell? ⟨g1, o1 + k' * 5 + 2, none⟩ = some (.string ⟨a.l[k'].s.toArray⟩) ∧ w3.cell? ⟨g1, o1 + k' * 5 + 3, none⟩ = some (.slice a5 a.l[k'].keys.length c5) ∧ w3.cell? ⟨g1, o1 + k' * 5 + 4, none⟩ = some (.slice a6 a.l[k'].l.length c6) ∧
              w3.cell? ⟨g2, o2 + k' * 5, none⟩ = some (.int .i64 b.l[k'].kind) ∧ w3.cell? ⟨g2, o2 + k' * 5 + 1, none⟩ = some (.int .i64 b.l[k'].n) ∧ w3.cell? ⟨g2, o2 + k' * 5 + 2, none⟩ = some (.string ⟨b.l[k'].s.toArray⟩) ∧ w3.cell? ⟨g2, o2 + k' * 5 + 3, none⟩ = some (.slice a5' b.l[k'].keys.length c5') ∧ w3.cell? ⟨g2, o2 + k' * 5 + 4, none⟩ = some (.slice a6' b.l[k'].l.length c6')) := by
            intro w' hb'
            refine (IH.out w' ok ok' a.l[k'] b.l[k'] _ _ (p5.bel hb') (q5.bel hb')).mono ?_
            rintro e w3 ⟨rfl, hb3⟩
            have hb4 := bel_trans hb' hb3
            exact ⟨rfl, hb4, cell_bel hb4 x4, cell_bel hb4 y4, cell_bel hb4 p0, cell_bel hb4 p1, cell_bel hb4 p2, cell_bel hb4 p3, cell_bel hb4 p4, cell_bel hb4 q0, cell_bel hb4 q1, cell_bel hb4 q2, cell_bel hb4 q3, cell_bel hb4 q4⟩
          clear hI p5 q5
          go_wp2_with fail
          go_region_held3 (fun w3 => w3.cell? ⟨w.heap.size, 4, none⟩ = some (.slice (some ⟨g1, o1, none⟩) a.l.length c2) ∧ w3.cell? ⟨w.heap.size + 1, 4, none⟩ = some (.slice (some ⟨g2, o2, none⟩) a.l.length d2) ∧
              w3.cell? ⟨g1, o1 + k' * 5, none⟩ = some (.int .i64 a.l[k'].kind) ∧ w3.cell? ⟨g1, o1 + k' * 5 + 1, none⟩ = some (.int .i64 a.l[k'].n) ∧ w3.cell? ⟨g1, o1 + k' * 5 + 2, none⟩ = some (.string ⟨a.l[k'].s.toArray⟩) ∧ w3.cell? ⟨g1, o1 + k' * 5 + 3, none⟩ = some (.slice a5 a.l[k'].keys.length c5) ∧ w3.cell? ⟨g1, o1 + k' * 5 + 4, none⟩ = some (.slice a6 a.l[k'].l.length c6) ∧
              w3.cell? ⟨g2, o2 + k' * 5, none⟩ = some (.int .i64 b.l[k'].kind) ∧ w3.cell? ⟨g2, o2 + k' * 5 + 1, none⟩ = some (.int .i64 b.l[k'].n) ∧ w3.cell? ⟨g2, o2 + k' * 5 + 2, none⟩ = some (.string ⟨b.l[k'].s.toArray⟩) ∧ w3.cell? ⟨g2, o2 + k' * 5 + 3, none⟩ = some (.slice a5' b.l[k'].keys.length c5') ∧ w3.cell? ⟨g2, o2 + k' * 5 + 4, none⟩ = some (.slice a6' b.l[k'].l.length c6')) (go_keep)
            (first | (go_at_call 8; refine (CALL.out _ (by exact ⟨rfl, rfl, rfl, Nat.le_refl _, fun _ _ => rfl⟩)).mono ?_; rintro e w3 ⟨rfl, hb3, s1, s2, s3, s4, s5, s6, s7, s8, s9, s10, s11, s12⟩))
          all_goals
            have A3 := hidI (A.out.2.below hb3)
            clear s1 s2 s3 s4 s5 s6 s7 s8 s9 s10 s11 s12 hb3 p0 p1 p2 p3 p4 q0 q1 q2 q3 q4 x4 y4
            cases hr : sameS d a.l[k'] b.l[k'] with
            | true =>
              have HR := hidI hr
              clear hr
              go_wp2_with fail
              go_roundg (a.l.length - (k' + 1))
              case measure => omega
              case rel =>
                refine ⟨k' + 1, hlt', rfl, by go_num, ?_, A3.out⟩
                intro j x y hj hx hy
                by_cases hjk : j < k'
                · exact A.out.1 j x y hjk hx hy
                · have : j = k' := by omega
                  subst this
                  rw [List.getElem?_eq_getElem hlt'] at hx
                  rw [List.getElem?_eq_getElem hltb] at hy
                  cases hx
                  cases hy
                  exact HR.out
            | false =>
              have HR := hidI hr
              clear hr
              go_wp2_with fail
              go_ret
              refine ⟨?_, A3.out.2.2.2.2⟩
              have hno : allS (sameS d) a.l b.l = false := by
                cases h9 : allS (sameS d) a.l b.l with
                | false => rfl
                | true =>
                  have := (allS_iff _ _).1 h9 k' _ _ (List.getElem?_eq_getElem hlt') (List.getElem?_eq_getElem hltb)
                  rw [HR.out] at this
                  cases this
              rw [FS.out, hno, Bool.and_false]
              rfl
        · have A3 := hidI A.out
          clear hI A
          go_wp2_with fail
          go_ret
          refine ⟨?_, A3.out.2.2.2.2.2⟩
          have hyes : allS (sameS d) a.l b.l = true := (allS_iff _ _).2 fun j x y hx hy => A3.out.1 j x y (by have := (List.getElem?_eq_some_iff.1 hx).1; omega) hx hy
          rw [FS.out, hyes, hke.out]
          simp
theorem same_all (d : Nat) : SameC d := by
  induction d with
  | zero => exact fun _ _ _ _ _ _ _ h => h.elim
  | succ d ih => exact same_succ d ih
end Go.Proofs.YtmdemcjmcnfjmaaGreatDoor

/- same of package stairwellkeep, whatever the depth. -/
set_option linter.unusedSimpArgs false
set_option linter.unusedVariables false
namespace Go.Proofs.YtmdemcjmcnfjmaaGreatDoor
open Go.RowKit

theorem same_is (w : World) (ok ok' : Nat → Prop) (t : V) (va vb : Value) (ha : In w ok t va) (hb : In w ok' t vb) :
    Calls Tryz.prog 8 #[va, vb] w fun e w' => e = .returned (.bool true) ∧ Below w.heap.size w w' := by
  obtain ⟨d, ha⟩ := ha
  obtain ⟨d', hb⟩ := hb
  have h1 := VIs.le (show d ≤ d + d' by omega) ha
  refine (same_all (d + d') w _ _ t t va vb h1 (VIs.le (by omega) hb)).mono ?_
  rintro e w' ⟨rfl, hb⟩
  exact ⟨by rw [sameS_refl _ h1], hb⟩
end Go.Proofs.YtmdemcjmcnfjmaaGreatDoor

/- The walk of keep's OwnerOthers. -/
set_option linter.unusedSimpArgs false
set_option linter.unusedVariables false
namespace Go.Proofs.YtmdemcjmcnfjmaaGreatDoor
open Go.RowKit

theorem sameTexts_yes (w : World) (ok ok' : Nat → Prop) (xs : List (List UInt8)) (v u : Value) (h : StrsAre w ok xs v) (h' : StrsAre w ok' xs u) :
    Calls Tryz.prog 9 #[v, u] w fun e w' => e = .returned (.bool true) ∧ Below w.heap.size w w' :=
  (sameTexts_at w ok ok' xs xs v u h h').mono fun e w' h => ⟨by rw [h.1, decide_eq_true rfl], h.2⟩
theorem gp_zero {p : List UInt8} (h : gpB p = true) : (splitP p).2 = 0 := by
  simp only [gpB, Bool.and_eq_true, decide_eq_true_eq] at h
  exact h.1
attribute [local go_sem ↓] Go.wp_at_zero Go.wp_at_succ
set_option maxRecDepth 100000 in
set_option maxHeartbeats 4000000 in
theorem others_at (w : World) (ok : Nat → Prop) (t want : V) (l : List Own) (who : List UInt8) (vt vl vw : Value) (ht : In w ok t vt) (hl : OwnsAre w ok l vl) (hw : In w ok want vw) (hG : Glob w) (hM : GlobM w) (hN : (allOf l).length ≤ 4000000) (hP : ∀ o ∈ l, ∀ x ∈ o.paths, x.length ≤ 140737488351232) (hwho : who.length ≤ 9223372036854775807) :
    Calls Tryz.prog 4 #[vt, vl, .string ⟨who.toArray⟩, vw] w fun e w' => e = .returned (.bool true) ∧ Below w.heap.size w w' := by
  have HT := hidI ht
  have HL := hidI hl
  have HW := hidI hw
  have HM := hidI hM
  have HG := hidI hG
  have HP := hidI hP
  obtain ⟨a1, b1, c1, d1, rfl⟩ := ht.form
  obtain ⟨a2, b2, c2, d2, rfl⟩ := hw.form
  obtain ⟨la, lc, rfl⟩ := hl.form
  have ll := hl.1
  unfold maxLen at ll
  obtain ⟨W2, hW2⟩ : ∃ W, W = (w.alloc (.cells #[.int .i64 t.kind, .int .i64 t.n, .string ⟨t.s.toArray⟩, .slice a1 t.keys.length c1, .slice b1 t.l.length d1] 25)).alloc (.cells #[.int .i64 want.kind, .int .i64 want.n, .string ⟨want.s.toArray⟩, .slice a2 want.keys.length c2, .slice b2 want.l.length d2] 25) := ⟨_, rfl⟩
  have Y2 : Hid (Below w.heap.size w W2) := hidI (by rw [hW2]; exact bel_trans (bel_alloc _ _) (bel_alloc _ _))
  have VB : Hid (BoxIs W2 w.heap.size (.int .i64 t.kind) (.int .i64 t.n) (.string ⟨t.s.toArray⟩) (.slice a1 t.keys.length c1) (.slice b1 t.l.length d1)) := hidI (by rw [hW2]; exact h2a _ _ _)
  have WB : Hid (BoxIs W2 (w.heap.size + 1) (.int .i64 want.kind) (.int .i64 want.n) (.string ⟨want.s.toArray⟩) (.slice a2 want.keys.length c2) (.slice b2 want.l.length d2)) := hidI (by rw [hW2]; exact h2b _ _ _)
  have HW2 := hidI hW2
  obtain ⟨res, m, cf, ee, hA⟩ : ∃ res m cf ee, applyF t l who want false = (res, m, cf, ee) := ⟨_, _, _, _, rfl⟩
  have AP := apply_at W2 ok t want l who false _ _ _ (HT.out.bel Y2.out) (HL.out.bel Y2.out) (HW.out.bel Y2.out) (HM.out.bel Y2.out) hN hP hwho
  rw [hA] at AP
  have APC : Hid (Calls Tryz.prog 6 #[.agg #[.int .i64 t.kind, .int .i64 t.n, .string ⟨t.s.toArray⟩, .slice a1 t.keys.length c1, .slice b1 t.l.length d1], .slice la l.length lc, .string ⟨who.toArray⟩, .agg #[.int .i64 want.kind, .int .i64 want.n, .string ⟨want.s.toArray⟩, .slice a2 want.keys.length c2, .slice b2 want.l.length d2], .bool false] W2 fun e w' => ∃ (a3 b3 : Option Addr) (c3 d3 : Nat) (ma : Option Addr) (mc : Nat) (rc : Value), e = .returned (.tuple #[.agg #[.int .i64 res.kind, .int .i64 res.n, .string ⟨res.s.toArray⟩, .slice a3 res.keys.length c3, .slice b3 res.l.length d3], .slice ma m.length mc, rc, .int .i64 ee]) ∧ In w' (okN ok W2.heap.size) res (.agg #[.int .i64 res.kind, .int .i64 res.n, .string ⟨res.s.toArray⟩, .slice a3 res.keys.length c3, .slice b3 res.l.length d3]) ∧ OwnsAre w' (okN ok W2.heap.size) m (.slice ma m.length mc) ∧ Below W2.heap.size W2 w') := hidI (AP.mono fun e w' h => by
    obtain ⟨r, ro, rc, rfl, h1, h2, -, hb⟩ := h
    obtain ⟨a3, b3, c3, d3, rfl⟩ := h1.form
    obtain ⟨ma, mc, rfl⟩ := h2.form
    exact ⟨a3, b3, c3, d3, ma, mc, rc, rfl, h1, h2, hb⟩)
  obtain ⟨o0, o1, o2, o3, o4, -⟩ := VB.out.c
  obtain ⟨q0, q1, q2, q3, q4, -⟩ := WB.out.c
  have HA := hidI hA
  clear AP hA hW2 ht hl hw hG hM hN hP
  have OWN : Hid (∀ W, Below w.heap.size w W → Calls Tryz.prog 7 #[] W fun e w' => e = .returned (.bool true) ∧ Below W.heap.size W w') := hidI (fun W hW => owns_at W (HG.out.grown (r := none) (gb_below hW) (by simp)) (HM.out.bel hW))
  go_enter Tryz.func4, Tryz.ntmps4
  go_upto_region 1 with fail
  rw [← HW2.out]
  go_upto_region 2 with (go_at_call 6; refine APC.out.mono ?_; rintro e w3 ⟨a3, b3, c3, d3, ma, mc, rc, rfl, h1, h2, hb⟩; have B3 := hidI hb; have I3 := hidI h1; have M3 := hidI h2; clear h1 h2 hb)
  obtain ⟨W3, hW3⟩ : ∃ W, W = w3.alloc (.cells #[.int .i64 res.kind, .int .i64 res.n, .string ⟨res.s.toArray⟩, .slice a3 res.keys.length c3, .slice b3 res.l.length d3] 25) := ⟨_, rfl⟩
  have A3 : Hid (Below w3.heap.size w3 W3) := hidI (by rw [hW3]; exact bel_alloc _ _)
  have X3 : Hid (BoxIs W3 w3.heap.size (.int .i64 res.kind) (.int .i64 res.n) (.string ⟨res.s.toArray⟩) (.slice a3 res.keys.length c3) (.slice b3 res.l.length d3)) := hidI (by rw [hW3]; exact heap_alloc_new _ _)
  rw [← hW3]
  clear hW3 o0 o1 o2 o3 o4 q0 q1 q2 q3 q4
  have Y3 := hidI (bel_trans (bel_trans Y2.out B3.out) A3.out)
  by_cases hee : ee = 0
  rotate_left
  · have e0 : (ee != 0) = true := by simpa using hee
    have e1 : (ee == 0) = false := by rw [beq_eq_false_iff_ne]; exact hee
    clear hee
    go_wp2_with (go_at_call 7; refine (OWN.out _ Y3.out).mono ?_; rintro e w4 ⟨rfl, hb⟩; have B4 := hidI hb; clear hb)
    go_ret
    exact ⟨rfl, bel_trans Y3.out B4.out⟩
  subst hee
  have LAWS := hidI (fun (o : Own) (ho : o ∈ l) (hne : o.name ≠ who) => apply_others HA.out ho hne)
  go_upto_region 4 with (go_at_call 7; refine (OWN.out _ Y3.out).mono ?_; rintro e w4 ⟨rfl, hb⟩; have B4 := hidI hb; clear hb)
  have Y4 := hidI (bel_trans Y3.out B4.out)
  have VB4 := hidI (box_bel (bel_trans (bel_trans B3.out A3.out) B4.out) VB.out)
  have RB4 := hidI (box_bel B4.out X3.out)
  have VI4 := hidI (HT.out.bel Y4.out)
  have RI4 := hidI ((I3.out.bel A3.out).bel B4.out)
  have LI4 := hidI (HL.out.bel Y4.out)
  have MI4 := hidI ((M3.out.bel A3.out).bel B4.out)
  have GM4 := hidI (HM.out.bel Y4.out)
  go_wp2_with fail
  go_loopg [40] l.length (fun gk i wr => ∃ k : Nat, k ≤ l.length ∧ gk = l.length - k ∧ i = .int .i64 k ∧ Hid (Below w4.heap.size w4 wr))
  case atStart => exact ⟨0, Nat.zero_le _, rfl, rfl, Below.refl _ _⟩
  case round =>
    obtain ⟨k, hk, hgk, rfl, BL⟩ := hrel
    have GK := hidI hgk
    clear hgk
    by_cases hlt : k < l.length
    · obtain ⟨b, off, pa, pc, rfl, hc1, hc2, hn0, hp0, hst, hnl⟩ := LI4.out.at hlt
      have hn := cell_bel BL.out hn0
      have hp := cell_bel BL.out hp0
      have w2 : (k : Int) < (l.length : Int) := by omega
      have w3' : (0 : Int) ≤ (k : Int) := by omega
      have LK := hidI (fun hne => LAWS.out _ (List.getElem_mem hlt) hne)
      have LP := hidI (HP.out _ (List.getElem_mem hlt))
      have ST := hidI (hst.bel BL.out)
      clear hn0 hp0 hst
      obtain ⟨nm, hnm⟩ : ∃ nm, l[k].name = nm := ⟨_, rfl⟩
      obtain ⟨ps, hps⟩ : ∃ ps, l[k].paths = ps := ⟨_, rfl⟩
      rw [hnm] at hn LK hnl
      rw [hps] at hp LK LP ST
      clear hnm hps
      have lp := ST.out.1
      unfold maxLen at lp
      obtain ⟨W5, hW5⟩ : ∃ W, W = wr.alloc (.cells #[.string ⟨nm.toArray⟩, .slice pa ps.length pc] 41) := ⟨_, rfl⟩
      have A5 : Hid (Below wr.heap.size wr W5) := hidI (by rw [hW5]; exact bel_alloc _ _)
      have N5 : Hid (W5.cell? ⟨wr.heap.size, 0, none⟩ = some (.string ⟨nm.toArray⟩)) := hidI (by rw [hW5]; exact (box2 (heap_alloc_new _ _)).1)
      have P5 : Hid (W5.cell? ⟨wr.heap.size, 1, none⟩ = some (.slice pa ps.length pc)) := hidI (by rw [hW5]; exact (box2 (heap_alloc_new _ _)).2)
      have Y5 := hidI (bel_trans BL.out A5.out)
      have ST5 := hidI (ST.out.bel A5.out)
      have HW5 := hidI hW5
      clear hW5
      by_cases hwn : nm = who
      · have e9 : (nm == who) = true := by simp [hwn]
        subst hwn
        go_upto_region 7 with fail
        rw [← HW5.out]
        have n5 := N5.out
        go_wp2_with fail
        go_roundg (l.length - (k + 1))
        case measure => rw [GK.out]; omega
        case rel => exact ⟨k + 1, hlt, rfl, by go_num, Y5⟩
      · have e9 : (nm == who) = false := by simpa using hwn
        obtain ⟨hpm, hlaw⟩ := LK.out hwn
        have LW : Hid (∀ p ∈ ps, (splitP p).2 = 0 ∧ ∀ x, thr (namesP p) t = some x → x.kind ≠ 5 → thr (namesP p) res = some x) := hidI (fun p hp => ⟨gp_zero (hlaw p hp).1, (hlaw p hp).2⟩)
        have PM : Hid (∀ W, Below W5.heap.size W5 W → Calls Tryz.prog 10 #[.slice ma m.length mc, .string ⟨nm.toArray⟩] W fun e w' => ∃ a c, e = .returned (.slice a ps.length c) ∧ StrsAre w' (okN ok W2.heap.size) ps (.slice a ps.length c) ∧ Below W.heap.size W w') := hidI (fun W hW => by
          have := pathsOfK_at W _ m _ nm ((MI4.out.bel Y5.out).bel hW)
          rwa [hpm] at this)
        clear hlaw hpm
        go_upto_region 7 with fail
        rw [← HW5.out]
        have n5 := N5.out
        go_upto_region 8 with fail
        clear n5
        refine wp_region_T (fun wS => Below W5.heap.size W5 wS) [] (by kernel_rfl) (bel_drewN _ 1) (fun hHeld => ?_)
        refine wpAnyT_take (i := 0) (v := ?_) [] (oi := _) rfl (by kernel_rfl) (by kernel_rfl) (by kernel_rfl) (by kernel_rfl) (fun _ _ _ h => h) (Or.inl ⟨by rfl, ?_⟩) hHeld ?_
        rotate_left
        · intro wS hSw
          go_simp
          all_goals with_reducible rfl
        simp only [Act.put, List.setIfInBounds_toArray, List.set_cons_zero, List.set_cons_succ]
        refine wpAnyT_take (i := 1) (v := ?_) [] (oi := _) rfl (by kernel_rfl) (by kernel_rfl) (by kernel_rfl) (by kernel_rfl) (fun _ _ _ h => h) (Or.inl ⟨by rfl, ?_⟩) hHeld ?_
        rotate_left
        · intro wS hSw
          go_simp
          all_goals with_reducible rfl
        simp only [Act.put, List.setIfInBounds_toArray, List.set_cons_zero, List.set_cons_succ]
        refine wpAnyT_take (i := 2) (v := ?_) [] (oi := _) rfl (by kernel_rfl) (by kernel_rfl) (by kernel_rfl) (by kernel_rfl) (fun _ _ _ h => h) (Or.inl ⟨by rfl, ?_⟩) hHeld ?_
        rotate_left
        · intro wS hSw
          have u0 := cell_bel hSw N5.out
          have u1 := cell_bel hSw P5.out
          go_simp
          all_goals with_reducible rfl
        simp only [Act.put, List.setIfInBounds_toArray, List.set_cons_zero, List.set_cons_succ]
        refine wpAnyT_take (i := 4) (v := ?_) [] (oi := _) rfl (by kernel_rfl) (by kernel_rfl) (by kernel_rfl) (by kernel_rfl) (fun _ _ _ h => h) (Or.inl ⟨by rfl, ?_⟩) hHeld ?_
        rotate_left
        · intro wS hSw
          go_simp
          all_goals with_reducible rfl
        simp only [Act.put, List.setIfInBounds_toArray, List.set_cons_zero, List.set_cons_succ]
        refine wpAnyT_take (i := 5) (v := ?_) [] (oi := _) rfl (by kernel_rfl) (by kernel_rfl) (by kernel_rfl) (by kernel_rfl) (fun _ _ _ h => h) (Or.inl ⟨by rfl, ?_⟩) hHeld ?_
        rotate_left
        · intro wS hSw
          have u0 := cell_bel hSw N5.out
          have u1 := cell_bel hSw P5.out
          go_simp
          all_goals with_reducible rfl
        simp only [Act.put, List.setIfInBounds_toArray, List.set_cons_zero, List.set_cons_succ]
        refine wpAnyT_ready (rs := [3]) (by kernel_rfl) (by simp) ?_
        refine AllReadyT.cons (i := 3) (o := _) rfl (fun K hK => ?_) ?_
        · go_simp
          refine (PM.out _ hHeld).mono ?_
          rintro e w3q ⟨ra, rc, rfl, hst, hb5⟩
          refine hK.out _ _ (bel_trans hHeld hb5) (fun hHeld2 => ?_)
          have PS := hidI hst
          clear hb5 hst
          clear hK K
          replace hHeld := hHeld2
          clear hHeld2
          try simp only [Act.put, List.setIfInBounds_toArray, List.set_cons_zero, List.set_cons_succ]
          refine wpAnyT_ready (rs := [6]) (by kernel_rfl) (by simp) ?_
          refine AllReadyT.cons (i := 6) (o := _) rfl (fun K hK => ?_) ?_
          · go_simp
            refine (sameTexts_yes _ _ _ ps _ _ (by exact PS.out) (by exact ST5.out.bel hHeld)).mono ?_
            rintro e w6q ⟨rfl, hb5⟩
            refine hK.out _ _ (bel_trans hHeld hb5) (fun hHeld2 => ?_)
            have B6 := hidI hHeld2
            clear hb5
            clear hK K
            replace hHeld := hHeld2
            clear hHeld2
            try simp only [Act.put, List.setIfInBounds_toArray, List.set_cons_zero, List.set_cons_succ]
            refine wpAnyT_take (i := 7) (v := ?_) [] (oi := _) rfl (by kernel_rfl) (by kernel_rfl) (by kernel_rfl) (by kernel_rfl) (fun _ _ _ h => h) (Or.inl ⟨by rfl, ?_⟩) hHeld ?_
            rotate_left
            · intro wS hSw
              go_simp
              all_goals with_reducible rfl
            simp only [Act.put, List.setIfInBounds_toArray, List.set_cons_zero, List.set_cons_succ]
            refine wpAnyT_done (by kernel_rfl) ?_ _
            have Y6 := hidI (bel_trans Y5.out B6.out)
            have n6 := cell_bel B6.out N5.out
            have p6 := cell_bel B6.out P5.out
            go_wp2_with fail
            clear n6 p6
            go_loopg [59] ps.length (fun gk i wj => ∃ j : Nat, j ≤ ps.length ∧ gk = ps.length - j ∧ i = .int .i64 j ∧ Hid (Below W5.heap.size W5 wj))
            case atStart => exact ⟨0, Nat.zero_le _, rfl, rfl, B6⟩
            case round =>
              obtain ⟨j, hj, hgj, rfl, BJ⟩ := hrel
              have GJ := hidI hgj
              clear hgj
              by_cases hjt : j < ps.length
              · obtain ⟨pb, po, rfl, hc1', hc2', hcell0⟩ := strs_at ST5.out hjt
                unfold maxLen at hc2'
                have hcell := cell_bel BJ.out hcell0
                have j2 : (j : Int) < (ps.length : Int) := by omega
                have j3 : (0 : Int) ≤ (j : Int) := by omega
                have LAW := hidI (LW.out _ (List.getElem_mem hjt))
                have LEN := hidI (LP.out _ (List.getElem_mem hjt))
                clear hcell0
                obtain ⟨p, hp⟩ : ∃ p, ps[j] = p := ⟨_, rfl⟩
                rw [hp] at hcell LAW LEN
                clear hp
                obtain ⟨v0, v1, v2, v3, v4, -⟩ := (box_bel (bel_trans Y5.out BJ.out) VB4.out).c
                have T1 := hidI (through_at wr _ t _ p (((VI4.out.bel Y5.out).bel BJ.out)) LEN.out ((GM4.out.bel Y5.out).bel BJ.out))
                go_upto_region 14 with (go_at_call 15; refine T1.out.mono ?_; rintro e w7 ⟨r, x, rfl, hb, hx, hxx⟩; obtain ⟨a4, b4, c4, d4, rfl⟩ := hx.form; have B7 := hidI hb; have XI := hidI hx; have XX := hidI hxx; clear hb hx hxx)
                obtain ⟨W7, hW7⟩ : ∃ W, W = w7.alloc (.cells #[.int .i64 x.kind, .int .i64 x.n, .string ⟨x.s.toArray⟩, .slice a4 x.keys.length c4, .slice b4 x.l.length d4] 25) := ⟨_, rfl⟩
                have A7 : Hid (Below w7.heap.size w7 W7) := hidI (by rw [hW7]; exact bel_alloc _ _)
                have X7 : Hid (BoxIs W7 w7.heap.size (.int .i64 x.kind) (.int .i64 x.n) (.string ⟨x.s.toArray⟩) (.slice a4 x.keys.length c4) (.slice b4 x.l.length d4)) := hidI (by rw [hW7]; exact heap_alloc_new _ _)
                rw [← hW7]
                clear hW7 v0 v1 v2 v3 v4
                have B8 := hidI (bel_trans (bel_trans BJ.out B7.out) A7.out)
                obtain ⟨v0, v1, v2, v3, v4, -⟩ := (box_bel (bel_trans Y5.out B8.out) RB4.out).c
                have T2 := hidI (through_at W7 _ res _ p (((RI4.out.bel Y5.out).bel B8.out)) LEN.out ((GM4.out.bel Y5.out).bel B8.out))
                go_upto_region 15 with (go_at_call 15; refine T2.out.mono ?_; rintro e w9 ⟨r, y, rfl, hb, hy, hyy⟩; obtain ⟨a5, b5, c5, d5, rfl⟩ := hy.form; have B9 := hidI hb; have YI := hidI hy; have YY := hidI hyy; clear hb hy hyy)
                obtain ⟨W9, hW9⟩ : ∃ W, W = w9.alloc (.cells #[.int .i64 y.kind, .int .i64 y.n, .string ⟨y.s.toArray⟩, .slice a5 y.keys.length c5, .slice b5 y.l.length d5] 25) := ⟨_, rfl⟩
                have A9 : Hid (Below w9.heap.size w9 W9) := hidI (by rw [hW9]; exact bel_alloc _ _)
                have X9 : Hid (BoxIs W9 w9.heap.size (.int .i64 y.kind) (.int .i64 y.n) (.string ⟨y.s.toArray⟩) (.slice a5 y.keys.length c5) (.slice b5 y.l.length d5)) := hidI (by rw [hW9]; exact heap_alloc_new _ _)
                rw [← hW9]
                clear hW9 v0 v1 v2 v3 v4
                have BE := hidI (bel_trans (bel_trans B8.out B9.out) A9.out)
                obtain ⟨x0, x1, x2, x3, x4, -⟩ := (box_bel (bel_trans B9.out A9.out) X7.out).c
                obtain ⟨y0, y1, y2, y3, y4, -⟩ := X9.out.c
                have XI9 := hidI (((XI.out.bel A7.out).bel B9.out).bel A9.out)
                have YI9 := hidI (YI.out.bel A9.out)
                have SP0 : Hid (decide ((splitP p).2 = 0) = true) := hidI (decide_eq_true LAW.out.1)
                rw [SP0.out, Bool.true_and, Bool.true_and]
                cases hth : thr (namesP p) t with
                | none =>
                  rw [Option.isSome_none]
                  clear hth
                  generalize (thr (namesP p) res).isSome = gg
                  go_wp2_with fail
                  go_roundg (ps.length - (j + 1))
                  case measure => rw [GJ.out]; omega
                  case rel => exact ⟨j + 1, hjt, rfl, by go_num, BE⟩
                | some z =>
                  have hzx := XX.out z LAW.out.1 hth
                  subst hzx
                  rw [Option.isSome_some]
                  by_cases hk5 : x.kind = 5
                  · have e5 : (x.kind == 5) = true := by simp [hk5]
                    have e6 : (x.kind != 5) = false := by simp [hk5]
                    clear hth hk5
                    generalize (thr (namesP p) res).isSome = gg
                    go_wp2_with fail
                    go_roundg (ps.length - (j + 1))
                    case measure => rw [GJ.out]; omega
                    case rel => exact ⟨j + 1, hjt, rfl, by go_num, BE⟩
                  · have hr := LAW.out.2 x hth hk5
                    have hyx := YY.out x LAW.out.1 hr
                    subst hyx
                    rw [hr, Option.isSome_some]
                    have e5 : (y.kind == 5) = false := by rw [beq_eq_false_iff_ne]; exact hk5
                    have e6 : (y.kind != 5) = true := by simpa using hk5
                    have SM := hidI (same_is W9 _ _ y _ _ XI9.out YI9.out)
                    clear hth hk5 hr
                    go_wp2_with (go_at_call 8; refine SM.out.mono ?_; rintro e w10 ⟨rfl, hb⟩; have BX := hidI (bel_trans BE.out hb); clear hb)
                    go_roundg (ps.length - (j + 1))
                    case measure => rw [GJ.out]; omega
                    case rel => exact ⟨j + 1, hjt, rfl, by go_num, BX⟩
              · have d9 : ¬ (j : Int) < (ps.length : Int) := by omega
                go_wp2_with fail
                go_roundg (l.length - (k + 1))
                case measure => rw [GK.out]; omega
                case rel => exact ⟨k + 1, hlt, rfl, by go_num, hidI (bel_trans Y5.out BJ.out)⟩
          exact AllReadyT.nil
        exact AllReadyT.nil
    · have d9 : ¬ (k : Int) < (l.length : Int) := by omega
      go_wp2_with fail
      go_ret
      exact ⟨rfl, bel_trans Y4.out BL.out⟩
end Go.Proofs.YtmdemcjmcnfjmaaGreatDoor

/- OwnerOthers as its row asks for it. -/
set_option linter.unusedSimpArgs false
set_option linter.unusedVariables false
namespace Go.Proofs.YtmdemcjmcnfjmaaGreatDoor
open Go.RowKit

theorem ownerOthers_walk (w : World) (ok0 : Nat → Prop) (d0 : Nat) (t0 : V) (v0 : Value) (h0 : VIs w ok0 d0 t0 v0) (_ : siz t0 ≤ 2000000) (ok1 : Nat → Prop) (l1 : List Own) (v1 : Value) (h1 : OwnsAre w ok1 l1 v1) (hN : (allOf l1).length ≤ 2000000) (hP : ∀ o ∈ l1, ∀ x ∈ o.paths, x.length ≤ 140737488351232)
    (who : List UInt8) (hwho : who.length ≤ 140737488351232) (ok3 : Nat → Prop) (d3 : Nat) (t3 : V) (v3 : Value) (h3 : VIs w ok3 d3 t3 v3) (_ : siz t3 ≤ 2000000) (hG : Glob w) (hM : GlobM w) :
    Calls Tryz.prog 4 #[v0, v1, str who, v3] w fun e w' => e = .returned (.bool true) ∧ Below w.heap.size w w' :=
  others_at w (fun _ => True) t0 t3 l1 who v0 v1 v3 (h0.is.weak fun _ _ => trivial) (h1.weak fun _ _ => trivial) (h3.is.weak fun _ _ => trivial) hG hM (by omega) hP (by omega)
end Go.Proofs.YtmdemcjmcnfjmaaGreatDoor

set_option linter.unusedSimpArgs false
set_option linter.unusedVariables false
namespace Go.Proofs.YtmdemcjmcnfjmaaGreatDoor.ownerOthers
open Go.ChangeShapes Go.WideShapes Go.ChangeAt Go.RowKit
open Go.ChangeMaps (open_string shut_string)

set_option maxRecDepth 100000 in
theorem contract (H : Type) (enc : TypeId × Value → H) (W : World) (base : Nat) (args : Array Value) (ds gs : List (DataW H)) (before : List MemPlace)
    (hval : ∀ (j : Nat) t v, Tryz.f4.params[j]? = some t → args[j]? = some v → Value.okWide Tryz.prog W .any base t v)
    (hW : DataW.Whole enc Tryz.prog Tryz.f4.params.toList Rows.ownerOthersSpec.vars false W args.toList ds gs before)
    (hk : Rows.uptoSmall H (ds ++ gs) = true) (hZ : (DataW.weightsEach Tryz.prog (Tryz.f4.params.toList ++ (OpenSpec.ofChange Rows.ownerOthersSpec).bare.plain.varTypes Tryz.prog) (ds ++ gs)).all (· ≤ reachBytes) = true) (hL : laidMet Tryz.prog laidOw W) (hS : W.ShapedOpen Tryz.prog) :
    Calls Tryz.prog 4 args W fun e W' => ∃ v, e = .returned v ∧ Rows.ownerOthersSpec.post enc Tryz.prog Tryz.f4 false true false false W args v W' := by
  have hW' := hW
  obtain ⟨p, q, hA0, hV, rfl, hfz, hnd⟩ := hW
  have hA : DataW.TrodAll enc Tryz.prog W 0 (fun _ => true) true Tryz.f4.params.toList args.toList ds p := hA0
  rw [Tryz.params4] at hA hval
  obtain ⟨v0, vs0, d0, ds0, p0, q0, hargs0, rfl, rfl, h0, r0⟩ := trodAll_cons hA
  obtain ⟨v1, vs1, d1, ds1, p1, q1, hargs1, rfl, rfl, h1, r1⟩ := trodAll_cons r0
  obtain ⟨v2, vs2, d2, ds2, p2, q2, hargs2, rfl, rfl, h2, r2⟩ := trodAll_cons r1
  obtain ⟨v3, vs3, d3, ds3, p3, q3, hargs3, rfl, rfl, h3, r3⟩ := trodAll_cons r2
  obtain ⟨rfl, rfl, rfl⟩ := trodAll_nil r3
  subst hargs1
  subst hargs2
  subst hargs3
  have hargs : args = #[v0, v1, v2, v3] := by
    obtain ⟨l⟩ := args
    exact congrArg Array.mk hargs0
  subst hargs
  obtain ⟨rfl, rfl⟩ := trodVars_none hV
  have k0 : Value.okWide Tryz.prog W .any base 25 v0 := hval 0 _ _ (by simp) (by simp)
  have k1 : Value.okWide Tryz.prog W .any base 26 v1 := hval 1 _ _ (by simp) (by simp)
  have k2 : Value.okWide Tryz.prog W .any base 9 v2 := hval 2 _ _ (by simp) (by simp)
  have k3 : Value.okWide Tryz.prog W .any base 25 v3 := hval 3 _ _ (by simp) (by simp)
  obtain ⟨f0, t0, hv0, hz0⟩ := arg_bulk k0 h0
  obtain ⟨os1, hv1, hz1⟩ := arg_owns k1 h1
  obtain ⟨s2, rfl, rfl, rfl, ws2⟩ := open_string Tryz.underlying9 k2 h2
  obtain ⟨f3, t3, hv3, hz3⟩ := arg_bulk k3 h3
  clear hA0
  simp only [List.append_nil] at hW'
  have hb := bulk_bound hk
  simp only [List.append_nil, Rows.uptoBulkAll] at hb
  have b0 : siz t0 ≤ 2000000 := by omega
  have b3 : siz t3 ≤ 2000000 := by omega
  have l2 : s2.data.toList.length ≤ 140737488351232 := sized_string (j := 2) hZ (by rw [Tryz.params4]; rfl) rfl
  have e2 : Value.string s2 = str s2.data.toList := by unfold str; cases s2; simp
  have y1 : (allOf os1).length ≤ 2000000 := by have := allOf_sum os1; omega
  have z1 : ∀ o ∈ os1, ∀ x ∈ o.paths, x.length ≤ 140737488351232 := fun o ho x hx => by have := path_sum ho hx; omega
  have walk := ownerOthers_walk W (fun _ => True) f0 t0 v0 hv0 b0 (fun _ => True) os1 v1 hv1 y1 z1 s2.data.toList l2 (fun _ => True) f3 t3 v3 hv3 b3 (glob_ow hL) (glob_pt hS)
  rw [← e2] at walk
  refine walk.mono fun e W' ⟨he, hg⟩ => ?_
  subst he
  have ef : Rows.ownerOthersSpec.fn H ([d0, d1, .lit (.string s2.data.toList), d3] ++ []) = { results := [.lit (.bool true)], args := [d0, d1, .lit (.string s2.data.toList), d3] } := rfl
  refine ⟨_, rfl, _, _, _, [], (p0 ++ (p1 ++ ([] ++ (p3 ++ [])))), [], hW', ?_, ?_, ?_, hg.frame _, fun h => by cases h⟩
  · rw [ef]; exact trodAll_mk1 (shut_bool Tryz.underlying4 _)
  · rw [ef, Tryz.params4]; exact trodAll_cons_mk (Below.trod laidOut readableV rowedV h0 hg (trod_old h0)) (trodAll_cons_mk (Below.trod laidOut readableW rowedW h1 hg (trod_old h1)) (trodAll_cons_mk (shut_string Tryz.underlying9 ws2) (trodAll_cons_mk (Below.trod laidOut readableV rowedV h3 hg (trod_old h3)) (trodAll_mk0))))
  · rw [ef]; rfl

set_option maxRecDepth 100000 in
theorem reads (os : Os) {H : Type} (enc : TypeId × Value → H) : ∃ places, DataW.whole enc Tryz.prog ((owWorld os).forCall (fun _ _ => 0) ⟨#[], #[.agg #[.int .i64 0, .int .i64 0, .string ⟨#[]⟩, .slice none 0 0, .slice none 0 0], .slice none 0 0, .string ⟨#[]⟩, .agg #[.int .i64 0, .int .i64 0, .string ⟨#[]⟩, .slice none 0 0, .slice none 0 0]], []⟩).memory Tryz.f4.params.toList Rows.ownerOthersSpec.vars false #[Value.agg #[.int .i64 0, .int .i64 0, .string ⟨#[]⟩, .slice none 0 0, .slice none 0 0], Value.slice none 0 0, Value.string ⟨#[]⟩, Value.agg #[.int .i64 0, .int .i64 0, .string ⟨#[]⟩, .slice none 0 0, .slice none 0 0]].toList 8 = some ([.agg [.lit (.int .i64 0), .lit (.int .i64 0), .lit (.string []), .nil, .nil], .nil, .lit (.string []), .agg [.lit (.int .i64 0), .lit (.int .i64 0), .lit (.string []), .nil, .nil]], [], places) :=
  ⟨[], by kernel_rfl⟩

set_option maxRecDepth 100000 in
theorem lifted (os : Os) (started : os.Started) (H : Type) (enc : TypeId × Value → H) (F : Stop.Interp) :
    ReturnsInHanded {} Tryz.checked os 4 .any ((Rows.OpenSpec.upto Rows.ownerOthersSpec).preRow enc Tryz.prog Tryz.f4 Rows.ownerOthersUptoRow.domain false Rows.ownerOthersUptoRow.laid) (((Rows.OpenSpec.upto Rows.ownerOthersSpec).at F).post enc Tryz.prog Tryz.f4 false true false false) := by
  obtain ⟨places, hx⟩ := reads os enc
  refine returnsInHanded_of_row (C := Tryz.checked) (s := Rows.OpenSpec.upto Rows.ownerOthersSpec) own started (by kernel_rfl) Tryz.func4
    (witness_row_at (enc := enc) (C := Tryz.checked) false (owWorld os) #[.agg #[.int .i64 0, .int .i64 0, .string ⟨#[]⟩, .slice none 0 0, .slice none 0 0], .slice none 0 0, .string ⟨#[]⟩, .agg #[.int .i64 0, .int .i64 0, .string ⟨#[]⟩, .slice none 0 0, .slice none 0 0]] rfl (by kernel_rfl) (by kernel_rfl) (by kernel_rfl)
      (OpenSpec.preRow_of_cond 8 hx (by kernel_rfl) (fun k hk => by cases hk; kernel_rfl) (by kernel_rfl) (ow_met os _))) ?_
  intro W base args ds gs before hval hW _ hc hZ hL hS _
  exact contract H enc W base args ds gs before hval hW (hc _ rfl) hZ hL hS

theorem said : Rows.OwnerOthersUptoSaid :=
  OpenClaim.holds_of_cond 4 Tryz.f4 rfl rfl rfl rfl rfl rfl rfl ⟨rfl, rfl, rfl, rfl, rfl⟩ rfl rfl rfl rfl rfl (by kernel_rfl) Tryz.func4 (by kernel_rfl)
    (of_decide_eq_true (by kernel_rfl)) (by unfold Func.isWrapper; first | (rw [if_pos (by decide +kernel)]; kernel_rfl) | (rw [if_neg (by decide +kernel)]; exact ⟨rfl, rfl⟩))
    (fun os started H enc _ F => by rw [OpenClaim.pre_eq_preRow]; exact lifted os started H enc F)

theorem plain (f : FuncId) (fn : Func) (hf : Tryz.pinned.checked.prog.funcNamed "stairwell/stairwellkeep.OwnerOthers" = some f) (hfn : Tryz.pinned.checked.prog.funcs[f]? = some fn) :
    true = Tryz.pinned.checked.prog.looks [] ∧ ∀ (j : Nat) t, fn.params[j]? = some t → Tryz.pinned.checked.prog.wantsStandIn t = false := by
  obtain rfl : f = 4 := Option.some.inj ((show Tryz.prog.funcNamed "stairwell/stairwellkeep.OwnerOthers" = some 4 by kernel_rfl).symm.trans hf) |>.symm
  obtain rfl : fn = Tryz.f4 := (Option.some.inj (Tryz.func4.symm.trans hfn)).symm
  refine ⟨by kernel_rfl, fun j t ht => ?_⟩
  rw [Tryz.params4] at ht
  have hm := Array.mem_of_getElem? ht
  simp only [Array.mem_def, List.mem_cons, List.not_mem_nil, or_false] at hm
  rcases hm with rfl | rfl | rfl | rfl
  · exact (show Tryz.prog.wantsStandIn 25 = false by kernel_rfl)
  · exact (show Tryz.prog.wantsStandIn 26 = false by kernel_rfl)
  · exact (show Tryz.prog.wantsStandIn 9 = false by kernel_rfl)
  · exact (show Tryz.prog.wantsStandIn 25 = false by kernel_rfl)

theorem card : Rows.OwnerOthersUptoCardSaid :=
  Claim7.holds_tied_plain_at .later [] _ _ _ _ said (fun _ h => by cases h) (by kernel_rfl) (fun _ h => by cases h) ownerOthersUpto_row_tie rfl ⟨rfl, rfl⟩ (by kernel_rfl) rfl plain (by kernel_rfl)
end Go.Proofs.YtmdemcjmcnfjmaaGreatDoor.ownerOthers
