/- What twin of package patch does with a value without items. -/
import Derived.Test.YtcpkmpaemnlkmacDoorYc
import Derived.Test.YtcpkmpaemnlkmacDoorYb
set_option linter.unusedSimpArgs false
set_option linter.unusedVariables false
namespace Go.Proofs.YtcpkmpaemnlkmacDoor
open Go.RowKit

set_option maxRecDepth 100000 in
set_option maxHeartbeats 40000000 in
theorem twin_leaf (w : World) (b b' : Option Addr) (c c' : Nat) (k n : Int) (s : List UInt8) (hk : I64 k) (hn : I64 n) (hs : s.length ≤ 9223372036854775807) (h1 : Emp b c) (h2 : Emp b' c') :
    Calls Tryd.prog 49 #[.agg #[.int .i64 k, .int .i64 n, .string ⟨s.toArray⟩, .slice b 0 c, .slice b' 0 c']] w fun e w' => ∃ f d f' d', e = .returned (.agg #[.int .i64 k, .int .i64 n, .string ⟨s.toArray⟩, .slice f 0 d, .slice f' 0 d']) ∧ Emp f d ∧ Emp f' d' ∧ Below w.heap.size w w' := by
  have H1 := hidI h1
  have H2 := hidI h2
  clear h1 h2
  have conS1 : Hid (∀ o1 W, W.heap = ((w.alloc o1).alloc (.cells #[.int .i64 0, .int .i64 0, .string ⟨#[]⟩, .slice none 0 0, .slice none 0 0] 25)).heap → o1 = .cells #[.int .i64 k, .int .i64 n, .string ⟨s.toArray⟩, .slice b 0 c, .slice b' 0 c'] 25 → W.os = w.os → W.tape = w.tape → W.output = w.output → Calls Tryd.prog 67 #[.slice b 0 c] W fun e w' => ∃ f d, e = .returned (.slice f 0 d) ∧ Emp f d ∧ BoxIs w' w.heap.size (.int .i64 k) (.int .i64 n) (.string ⟨s.toArray⟩) (.slice b 0 c) (.slice b' 0 c') ∧ BoxIs w' (w.heap.size + 1) (.int .i64 0) (.int .i64 0) (.string ⟨#[]⟩) (.slice none 0 0) (.slice none 0 0) ∧ Below w.heap.size w w') := by
    intro o1 W e1 eo e2 e3 e4
    subst eo
    have hbW := bel_of2 e1 e2 e3 e4
    refine (clone0S W b c H1.out).mono ?_
    rintro e w' ⟨f, d, rfl, he, hb⟩
    exact ⟨f, d, rfl, he, box_bel hb (by unfold BoxIs; rw [e1]; exact h2a w _ _), box_bel hb (by unfold BoxIs; rw [e1]; exact h2b w _ _), bel_trans hbW hb⟩
  have conV1 : Hid (∀ o1 W, W.heap = ((w.alloc o1).alloc (.cells #[.int .i64 0, .int .i64 0, .string ⟨#[]⟩, .slice none 0 0, .slice none 0 0] 25)).heap → o1 = .cells #[.int .i64 k, .int .i64 n, .string ⟨s.toArray⟩, .slice b 0 c, .slice b' 0 c'] 25 → W.os = w.os → W.tape = w.tape → W.output = w.output → Calls Tryd.prog 68 #[.slice b' 0 c'] W fun e w' => ∃ f d, e = .returned (.slice f 0 d) ∧ Emp f d ∧ BoxIs w' w.heap.size (.int .i64 k) (.int .i64 n) (.string ⟨s.toArray⟩) (.slice b 0 c) (.slice b' 0 c') ∧ BoxIs w' (w.heap.size + 1) (.int .i64 0) (.int .i64 0) (.string ⟨#[]⟩) (.slice none 0 0) (.slice none 0 0) ∧ Below w.heap.size w w') := by
    intro o1 W e1 eo e2 e3 e4
    subst eo
    have hbW := bel_of2 e1 e2 e3 e4
    refine (clone0V W b' c' H2.out).mono ?_
    rintro e w' ⟨f, d, rfl, he, hb⟩
    exact ⟨f, d, rfl, he, box_bel hb (by unfold BoxIs; rw [e1]; exact h2a w _ _), box_bel hb (by unfold BoxIs; rw [e1]; exact h2b w _ _), bel_trans hbW hb⟩
  have conS2 : Hid (∀ W, (BoxIs W w.heap.size (.int .i64 k) (.int .i64 n) (.string ⟨s.toArray⟩) (.slice b 0 c) (.slice b' 0 c') ∧ BoxIs W (w.heap.size + 1) (.int .i64 0) (.int .i64 0) (.string ⟨#[]⟩) (.slice none 0 0) (.slice none 0 0) ∧ Below w.heap.size w W) → Calls Tryd.prog 67 #[.slice b 0 c] W fun e w' => ∃ f d, e = .returned (.slice f 0 d) ∧ Emp f d ∧ BoxIs w' w.heap.size (.int .i64 k) (.int .i64 n) (.string ⟨s.toArray⟩) (.slice b 0 c) (.slice b' 0 c') ∧ BoxIs w' (w.heap.size + 1) (.int .i64 0) (.int .i64 0) (.string ⟨#[]⟩) (.slice none 0 0) (.slice none 0 0) ∧ Below w.heap.size w w') := by
    intro W hW
    refine (clone0S W b c H1.out).mono ?_
    rintro e w' ⟨f, d, rfl, he, hb⟩
    exact ⟨f, d, rfl, he, box_bel hb hW.1, box_bel hb hW.2.1, bel_trans hW.2.2 hb⟩
  have conV2 : Hid (∀ W, (BoxIs W w.heap.size (.int .i64 k) (.int .i64 n) (.string ⟨s.toArray⟩) (.slice b 0 c) (.slice b' 0 c') ∧ BoxIs W (w.heap.size + 1) (.int .i64 0) (.int .i64 0) (.string ⟨#[]⟩) (.slice none 0 0) (.slice none 0 0) ∧ Below w.heap.size w W) → Calls Tryd.prog 68 #[.slice b' 0 c'] W fun e w' => ∃ f d, e = .returned (.slice f 0 d) ∧ Emp f d ∧ BoxIs w' w.heap.size (.int .i64 k) (.int .i64 n) (.string ⟨s.toArray⟩) (.slice b 0 c) (.slice b' 0 c') ∧ BoxIs w' (w.heap.size + 1) (.int .i64 0) (.int .i64 0) (.string ⟨#[]⟩) (.slice none 0 0) (.slice none 0 0) ∧ Below w.heap.size w w') := by
    intro W hW
    refine (clone0V W b' c' H2.out).mono ?_
    rintro e w' ⟨f, d, rfl, he, hb⟩
    exact ⟨f, d, rfl, he, box_bel hb hW.1, box_bel hb hW.2.1, bel_trans hW.2.2 hb⟩
  have midI : Hid (∀ (wb : World) (f f' : Option Addr) (d d' : Nat), Emp f d → Emp f' d' → (BoxIs wb w.heap.size (.int .i64 k) (.int .i64 n) (.string ⟨s.toArray⟩) (.slice b 0 c) (.slice b' 0 c') ∧ BoxIs wb (w.heap.size + 1) (.int .i64 0) (.int .i64 0) (.string ⟨#[]⟩) (.slice none 0 0) (.slice none 0 0) ∧ Below w.heap.size w wb) → ∀ W, (W = (wb.setCell ⟨w.heap.size, 3, none⟩ (.slice f 0 d)).setCell ⟨w.heap.size, 4, none⟩ (.slice f' 0 d') ∨ W = (wb.setCell ⟨w.heap.size, 4, none⟩ (.slice f' 0 d')).setCell ⟨w.heap.size, 3, none⟩ (.slice f 0 d)) →
      ∃ f d f' d', Emp f d ∧ Emp f' d' ∧ BoxIs W w.heap.size (.int .i64 k) (.int .i64 n) (.string ⟨s.toArray⟩) (.slice f 0 d) (.slice f' 0 d') ∧ BoxIs W (w.heap.size + 1) (.int .i64 0) (.int .i64 0) (.string ⟨#[]⟩) (.slice none 0 0) (.slice none 0 0) ∧ Below w.heap.size w W) := by
    intro wb f f' d d' he he' hw W hW
    refine ⟨f, d, f', d', he, he', ?_⟩
    have g1 : ∀ (i j : Nat) (u v : Value), wb.grownBy ((wb.setCell ⟨w.heap.size, i, none⟩ u).setCell ⟨w.heap.size, j, none⟩ v) (some w.heap.size) := fun i j u v => gb_set (gb_set (gb_refl _ _) _ _) _ _
    rcases hW with rfl | rfl
    · exact ⟨heap_set (heap_set hw.1 3 _) 4 _, hw.2.1.grown (g1 _ _ _ _) (by simp), gb_none (gb_setA (gb_setA (gb_below hw.2.2) (Nat.le_refl _) _ _) (Nat.le_refl _) _ _)⟩
    · exact ⟨heap_set (heap_set hw.1 4 _) 3 _, hw.2.1.grown (g1 _ _ _ _) (by simp), gb_none (gb_setA (gb_setA (gb_below hw.2.2) (Nat.le_refl _) _ _) (Nat.le_refl _) _ _)⟩
  go_enter Tryd.func49, Tryd.ntmps49
  go_upto_region 1 with fail
  go_cut [] (fun wc => ∃ f d f' d', Emp f d ∧ Emp f' d' ∧ BoxIs wc w.heap.size (.int .i64 k) (.int .i64 n) (.string ⟨s.toArray⟩) (.slice f 0 d) (.slice f' 0 d') ∧ BoxIs wc (w.heap.size + 1) (.int .i64 0) (.int .i64 0) (.string ⟨#[]⟩) (.slice none 0 0) (.slice none 0 0) ∧ Below w.heap.size w wc)
  case first =>
    go_region_with (first
      | (go_at_call 67; refine (conS1.out _ _ (by rfl) (by rfl) (by rfl) (by rfl) (by rfl)).mono ?_; rintro e wa ⟨f, d, rfl, heS, hka⟩; obtain ⟨p0, p1, p2, p3, p4, p5, p6, p7, p8, p9⟩ := hka.1.c; have KA := hidI hka; have ES := hidI heS; clear hka heS)
      | (go_at_call 68; refine (conV1.out _ _ (by rfl) (by rfl) (by rfl) (by rfl) (by rfl)).mono ?_; rintro e wa ⟨f', d', rfl, heV, hka⟩; obtain ⟨p0, p1, p2, p3, p4, p5, p6, p7, p8, p9⟩ := hka.1.c; have KA := hidI hka; have EV := hidI heV; clear hka heV)
      | (go_at_call 67; refine (conS2.out _ (by exact KA.out)).mono ?_; rintro e wb ⟨f, d, rfl, heS, hkb⟩; clear p0 p1 p2 p3 p4 p5 p6 p7 p8 p9; obtain ⟨p0, p1, p2, p3, p4, p5, p6, p7, p8, p9⟩ := hkb.1.c; have KB := hidI hkb; have ES := hidI heS; clear hkb heS)
      | (go_at_call 68; refine (conV2.out _ (by exact KA.out)).mono ?_; rintro e wb ⟨f', d', rfl, heV, hkb⟩; clear p0 p1 p2 p3 p4 p5 p6 p7 p8 p9; obtain ⟨p0, p1, p2, p3, p4, p5, p6, p7, p8, p9⟩ := hkb.1.c; have KB := hidI hkb; have EV := hidI heV; clear hkb heV))
    all_goals
      go_wp2_with fail
      go_meet
      case rel => first | exact midI.out _ f f' d d' ES.out EV.out KB.out _ (.inl rfl) | exact midI.out _ f f' d d' ES.out EV.out KB.out _ (.inr rfl)
  case rest =>
    obtain ⟨f, d, f', d', e1, e2, k1, k2, k3⟩ := hcut
    have E : Hid (Emp f d ∧ Emp f' d') := ⟨e1, e2⟩
    obtain ⟨p0, p1, p2, p3, p4, -⟩ := k1.c
    obtain ⟨x0, x1, x2, x3, x4, y0, y1, y2, y3, y4⟩ := k2.c
    have ZW := hidI (bel_set5 k3 (Nat.le_succ w.heap.size) (.int .i64 k) (.int .i64 n) (.string ⟨s.toArray⟩) (.slice f 0 d) (.slice f' 0 d'))
    have ZB := hidI (k2.set (.int .i64 k) (.int .i64 n) (.string ⟨s.toArray⟩) (.slice f 0 d) (.slice f' 0 d'))
    clear e1 e2 k1 k2 k3 conS1 conS2 conV1 conV2 midI
    go_wp2_with fail
    go_loop [16] (fun i => i = .int .i64 0) (fun _ => 0)
    case atStart => rfl
    case round =>
      subst hrel
      go_wp2_with fail
      obtain ⟨z0, z1, z2, z3, z4, -⟩ := ZB.out.c
      refine bodyPost_ret (v := .agg #[.int .i64 k, .int .i64 n, .string ⟨s.toArray⟩, .slice f 0 d, .slice f' 0 d']) ?_ rfl ?_
      · simp only [set5] at z0 z1 z2 z3 z4
        simp [results, Tryd.results49, go_sem, z0, z1, z2, z3, z4]
      · exact ⟨f, d, f', d', rfl, E.out.1, E.out.2, ZW.out⟩
end Go.Proofs.YtcpkmpaemnlkmacDoor
