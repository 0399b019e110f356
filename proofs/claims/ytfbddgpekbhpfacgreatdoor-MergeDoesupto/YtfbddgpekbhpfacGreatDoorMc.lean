/- What merged of package merge does. -/
import Derived.Test.YtfbddgpekbhpfacGreatDoorMb
import Derived.Deep.DrawnRows
set_option linter.unusedSimpArgs false
set_option linter.unusedVariables false
namespace Go.Proofs.YtfbddgpekbhpfacGreatDoor
open Go.RowKit
attribute [local go_sem ↓] Go.wp_at_zero Go.wp_at_succ

def MgC (E : Nat) : Prop := ∀ (w : World) (ok : Nat → Prop) (v p : V) (vv pv : Value), In w ok v vv → In w ok p pv → Nice v → Nice p → Dep E p →
  Calls Tryz.prog 14 #[vv, pv] w fun e w' => ∃ r, e = .returned r ∧ Below w.heap.size w w' ∧ In w' (okN ok w.heap.size) (mergeF E v p) r
def MgI (w : World) (ok : Nat → Prop) (E : Nat) (v p : V) (a3 a4 : Option Addr) (c3 c4 k : Nat) (wr : World) : Prop :=
  ∃ (y : V) (a5 a6 : Option Addr) (c5 c6 : Nat), y = ((p.keys.zip p.l).take k).foldl (stepM (mergeF E)) (objOf v) ∧ BoxIs wr w.heap.size (.int .i64 y.kind) (.int .i64 y.n) (.string ⟨y.s.toArray⟩) (.slice a5 y.keys.length c5) (.slice a6 y.l.length c6) ∧ BoxIs wr (w.heap.size + 1) (.int .i64 p.kind) (.int .i64 p.n) (.string ⟨p.s.toArray⟩) (.slice a3 p.keys.length c3) (.slice a4 p.l.length c4) ∧ BoxIs wr (w.heap.size + 2) (.int .i64 0) (.int .i64 0) (.string ⟨#[]⟩) (.slice none 0 0) (.slice none 0 0) ∧ Below w.heap.size w wr ∧ In wr (lowN ok w.heap.size (w.heap.size + 3)) y (.agg #[.int .i64 y.kind, .int .i64 y.n, .string ⟨y.s.toArray⟩, .slice a5 y.keys.length c5, .slice a6 y.l.length c6])

set_option maxRecDepth 100000 in
set_option maxHeartbeats 40000000 in
theorem merged_succ (E : Nat) (ih : MgC E) : MgC (E + 1) := by
  intro w ok v p vv pv h hp nv np hd
  have H := hidI h.low
  have HP := hidI hp.low
  have NV := hidI nv
  have NP := hidI np
  have HD := hidI hd
  have IH := hidI ih
  obtain ⟨l1, l2, l3⟩ := h.lens
  obtain ⟨l4, l5, l6⟩ := hp.lens
  obtain ⟨a1, a2, c1, c2, rfl⟩ := h.form
  obtain ⟨a3, a4, c3, c4, rfl⟩ := hp.form
  clear h hp ih nv np hd
  have B3 : Hid (∀ o1 o2 o3, Below w.heap.size w (((w.alloc o1).alloc o2).alloc o3)) := fun o1 o2 o3 => bel_trans (bel_trans (bel_alloc _ _) (bel_alloc _ _)) (bel_alloc _ _)
  by_cases hk : p.kind = 5
  · have e0 : (p.kind != 5) = false := by rw [hk]; rfl
    have OP : Hid (Ob p) := hidI (nice_ob NP.out hk)
    have HM : Hid (mergeF (E + 1) v p = (p.keys.zip p.l).foldl (stepM (mergeF E)) (objOf v)) := hidI (by rw [mergeF, if_pos hk])
    have HKL : Hid (p.keys.length = p.l.length) := hidI OP.out.2.2.2.1
    have HK := hidI hk
    clear hk
    go_enter Tryz.func14, Tryz.ntmps14
    go_upto_if 15 with fail
    go_cut [] (fun wc => MgI w ok E v p a3 a4 c3 c4 0 wc)
    case first =>
      by_cases hv5 : v.kind = 5
      · have e1 : (v.kind != 5) = false := by rw [hv5]; rfl
        have HV : Hid (objOf v = v) := hidI (by unfold objOf; rw [if_pos hv5])
        clear hv5
        go_wp2_with fail
        go_meet
        case rel => exact ⟨v, a1, a2, c1, c2, HV.out.symm, h3a w _ _ _, h3b w _ _ _, h3c w _ _ _, B3.out _ _ _, (H.out.bel (B3.out _ _ _)).weak lowN_low⟩
      · have e1 : (v.kind != 5) = true := by rw [bne_iff_ne]; exact hv5
        have HV : Hid (objOf v = objT) := hidI (by unfold objOf; rw [if_neg hv5])
        clear hv5
        go_wp2_with fail
        go_meet
        case rel => exact ⟨objT, none, none, 0, 0, HV.out.symm, h3a w _ _ _, h3b w _ _ _, h3c w _ _ _, B3.out _ _ _, in_leaf _ _ 5 0 (by unfold I64; omega) (by unfold I64; omega)⟩
    case rest =>
      have I0 := hidI hcut
      obtain ⟨y, a5, a6, c5, c6, -, -, i2, -⟩ := hcut
      obtain ⟨p0, p1, p2, p3, p4, -⟩ := i2.c
      clear i2
      go_wp2_with fail
      go_loopg [20] p.keys.length (fun gk i wr => ∃ k : Nat, k ≤ p.keys.length ∧ gk = p.keys.length - k ∧ i = .int .i64 k ∧ MgI w ok E v p a3 a4 c3 c4 k wr)
      case atStart => exact ⟨0, Nat.zero_le _, rfl, rfl, I0.out⟩
      case round =>
        obtain ⟨k, hk, hgk, rfl, y, a5, a6, c5, c6, i0, i1, i2, i3, i4, i5⟩ := hrel
        have GK := hidI hgk
        have I : Hid (y = ((p.keys.zip p.l).take k).foldl (stepM (mergeF E)) (objOf v) ∧ BoxIs wr w.heap.size (.int .i64 y.kind) (.int .i64 y.n) (.string ⟨y.s.toArray⟩) (.slice a5 y.keys.length c5) (.slice a6 y.l.length c6) ∧ BoxIs wr (w.heap.size + 1) (.int .i64 p.kind) (.int .i64 p.n) (.string ⟨p.s.toArray⟩) (.slice a3 p.keys.length c3) (.slice a4 p.l.length c4) ∧ BoxIs wr (w.heap.size + 2) (.int .i64 0) (.int .i64 0) (.string ⟨#[]⟩) (.slice none 0 0) (.slice none 0 0) ∧ Below w.heap.size w wr ∧ In wr (lowN ok w.heap.size (w.heap.size + 3)) y (.agg #[.int .i64 y.kind, .int .i64 y.n, .string ⟨y.s.toArray⟩, .slice a5 y.keys.length c5, .slice a6 y.l.length c6])) := hidI ⟨i0, i1, i2, i3, i4, i5⟩
        have hwsz := i3.lt
        obtain ⟨p0, p1, p2, p3, p4, -⟩ := i2.c
        obtain ⟨y0, y1, y2, y3, y4, x0, x1, x2, x3, x4⟩ := i1.c
        clear hgk i0 i1 i2 i3 i4 i5
        by_cases hlt : k < p.keys.length
        · have hlt' : k < p.l.length := by have := HKL.out; omega
          obtain ⟨kb, ko, rfl, j1, j2, jk, jl⟩ := HP.out.key hlt
          obtain ⟨xb, xo, b5, d5, b6, d6, rfl, j3, j4, g0, g1, g2, g3, g4, g5⟩ := HP.out.item hlt'
          replace jk := cell_bel I.out.2.2.2.2.1 jk
          replace g0 := cell_bel I.out.2.2.2.2.1 g0
          replace g1 := cell_bel I.out.2.2.2.2.1 g1
          replace g2 := cell_bel I.out.2.2.2.2.1 g2
          replace g3 := cell_bel I.out.2.2.2.2.1 g3
          replace g4 := cell_bel I.out.2.2.2.2.1 g4
          have G5 := hidI (g5.bel I.out.2.2.2.2.1)
          have MA : Hid (Ob y ∧ memV y p.keys[k] = memV (objOf v) p.keys[k]) := hidI (by rw [I.out.1]; exact merge_at NV.out OP.out hlt)
          have ML : Hid (y.l.length ≤ 240) := hidI (by rw [I.out.1]; exact merge_len NV.out NP.out)
          have ST : Hid (∀ u, u = stepM (mergeF E) y (p.keys[k], p.l[k]) → u = ((p.keys.zip p.l).take (k + 1)).foldl (stepM (mergeF E)) (objOf v)) := hidI (by rintro u rfl; rw [zip_step hlt hlt', ← I.out.1])
          have w1 : (0 : Int) ≤ (k : Int) := by omega
          have w2 : (k : Int) < (p.l.length : Int) := by omega
          have w3 : (k : Int) < (p.keys.length : Int) := by omega
          clear g5
          by_cases hn : p.l[k].kind = 0
          · have e1 : (p.l[k].kind == 0) = true := by rw [hn]; rfl
            have HN := hidI hn
            clear hn
            go_wp2_with fail
            refine (without_is _ (lowN ok w.heap.size (w.heap.size + 3)) y _ p.keys[k] (by exact I.out.2.2.2.2.2) (by have := ML.out; omega)).mono ?_
            rintro e w4 ⟨r, rfl, hr, hb4⟩
            obtain ⟨u, hu⟩ : ∃ u, withoutV y p.keys[k] = u := ⟨_, rfl⟩
            rw [hu] at hr
            obtain ⟨e5, e6, f5, f6, rfl⟩ := hr.form
            have K : Hid (BoxIs w4 w.heap.size (.int .i64 y.kind) (.int .i64 y.n) (.string ⟨y.s.toArray⟩) (.slice a5 y.keys.length c5) (.slice a6 y.l.length c6) ∧ BoxIs w4 (w.heap.size + 1) (.int .i64 p.kind) (.int .i64 p.n) (.string ⟨p.s.toArray⟩) (.slice (some ⟨kb, ko, none⟩) p.keys.length c3) (.slice (some ⟨xb, xo, none⟩) p.l.length c4) ∧ BoxIs w4 (w.heap.size + 2) (.int .i64 0) (.int .i64 0) (.string ⟨#[]⟩) (.slice none 0 0) (.slice none 0 0) ∧ Below w.heap.size w w4 ∧ In w4 (lowN ok w.heap.size (w.heap.size + 3)) u (.agg #[.int .i64 u.kind, .int .i64 u.n, .string ⟨u.s.toArray⟩, .slice e5 u.keys.length f5, .slice e6 u.l.length f6])) := hidI ⟨box_bel hb4 I.out.2.1, box_bel hb4 I.out.2.2.1, box_bel hb4 I.out.2.2.2.1, bel_trans I.out.2.2.2.2.1 hb4, hr.weak (lowN_up hwsz)⟩
            have FIN : Hid (MgI w ok E v p (some ⟨kb, ko, none⟩) (some ⟨xb, xo, none⟩) c3 c4 (k + 1) (set5 w4 w.heap.size (.int .i64 u.kind) (.int .i64 u.n) (.string ⟨u.s.toArray⟩) (.slice e5 u.keys.length f5) (.slice e6 u.l.length f6))) := by
              have gs := set5_gb w4 w.heap.size (.int .i64 u.kind) (.int .i64 u.n) (.string ⟨u.s.toArray⟩) (.slice e5 u.keys.length f5) (.slice e6 u.l.length f6)
              refine hidI ⟨u, e5, e6, f5, f6, ST.out u (by rw [← hu, stepM, if_pos HN.out]), K.out.1.set _ _ _ _ _, K.out.2.1.grown gs (by simp), K.out.2.2.1.grown gs (by simp), bel_set5 K.out.2.2.2.1 (Nat.le_refl _) _ _ _ _ _, K.out.2.2.2.2.box (Nat.le_refl _) (by omega) _ _ _ _ _⟩
            clear hu hr hb4 p0 p1 p2 p3 p4 y0 y1 y2 y3 y4 x0 x1 x2 x3 x4
            obtain ⟨y0, y1, y2, y3, y4, x0, x1, x2, x3, x4⟩ := K.out.1.c
            go_wp2_with fail
            go_roundg (p.keys.length - (k + 1))
            case measure => rw [GK.out]; omega
            case rel => exact ⟨k + 1, hlt, rfl, by go_num, FIN.out⟩
          · have e1 : (p.l[k].kind == 0) = false := by rw [beq_eq_false_iff_ne]; exact hn
            have HN := hidI hn
            clear hn
            go_wp2_with fail
            refine (member_was _ (lowN ok w.heap.size (w.heap.size + 3)) y _ p.keys[k] (by exact I.out.2.2.2.2.2)).mono ?_
            rintro e w4 ⟨r, rfl, hb4, hr⟩
            obtain ⟨q, hq⟩ : ∃ q, (memV y p.keys[k]).getD zeroT = q := ⟨_, rfl⟩
            rw [hq] at hr
            have NQ : Hid (Nice q) := hidI (by rw [← hq, MA.out.2]; exact nice_was NV.out _)
            have HQ := hidI hq
            obtain ⟨mb, hmb⟩ : ∃ mb, (memV y p.keys[k]).isSome = mb := ⟨_, rfl⟩
            rw [hmb]
            obtain ⟨a7, a8, c7, c8, rfl⟩ := hr.form
            have hbb := bel_trans hb4 (bel_alloc w4 (.cells #[.int .i64 q.kind, .int .i64 q.n, .string ⟨q.s.toArray⟩, .slice a7 q.keys.length c7, .slice a8 q.l.length c8] 25))
            have K : Hid (BoxIs (w4.alloc (.cells #[.int .i64 q.kind, .int .i64 q.n, .string ⟨q.s.toArray⟩, .slice a7 q.keys.length c7, .slice a8 q.l.length c8] 25)) w.heap.size (.int .i64 y.kind) (.int .i64 y.n) (.string ⟨y.s.toArray⟩) (.slice a5 y.keys.length c5) (.slice a6 y.l.length c6) ∧ BoxIs (w4.alloc (.cells #[.int .i64 q.kind, .int .i64 q.n, .string ⟨q.s.toArray⟩, .slice a7 q.keys.length c7, .slice a8 q.l.length c8] 25)) (w.heap.size + 1) (.int .i64 p.kind) (.int .i64 p.n) (.string ⟨p.s.toArray⟩) (.slice (some ⟨kb, ko, none⟩) p.keys.length c3) (.slice (some ⟨xb, xo, none⟩) p.l.length c4) ∧ BoxIs (w4.alloc (.cells #[.int .i64 q.kind, .int .i64 q.n, .string ⟨q.s.toArray⟩, .slice a7 q.keys.length c7, .slice a8 q.l.length c8] 25)) (w.heap.size + 2) (.int .i64 0) (.int .i64 0) (.string ⟨#[]⟩) (.slice none 0 0) (.slice none 0 0) ∧ BoxIs (w4.alloc (.cells #[.int .i64 q.kind, .int .i64 q.n, .string ⟨q.s.toArray⟩, .slice a7 q.keys.length c7, .slice a8 q.l.length c8] 25)) w4.heap.size (.int .i64 q.kind) (.int .i64 q.n) (.string ⟨q.s.toArray⟩) (.slice a7 q.keys.length c7) (.slice a8 q.l.length c8) ∧ Below w.heap.size w (w4.alloc (.cells #[.int .i64 q.kind, .int .i64 q.n, .string ⟨q.s.toArray⟩, .slice a7 q.keys.length c7, .slice a8 q.l.length c8] 25)) ∧ In (w4.alloc (.cells #[.int .i64 q.kind, .int .i64 q.n, .string ⟨q.s.toArray⟩, .slice a7 q.keys.length c7, .slice a8 q.l.length c8] 25)) (lowN ok w.heap.size (w.heap.size + 3)) y (.agg #[.int .i64 y.kind, .int .i64 y.n, .string ⟨y.s.toArray⟩, .slice a5 y.keys.length c5, .slice a6 y.l.length c6]) ∧ In (w4.alloc (.cells #[.int .i64 q.kind, .int .i64 q.n, .string ⟨q.s.toArray⟩, .slice a7 q.keys.length c7, .slice a8 q.l.length c8] 25)) (lowN ok w.heap.size (w.heap.size + 3)) q (.agg #[.int .i64 q.kind, .int .i64 q.n, .string ⟨q.s.toArray⟩, .slice a7 q.keys.length c7, .slice a8 q.l.length c8]) ∧ w.heap.size + 3 ≤ (w4.alloc (.cells #[.int .i64 q.kind, .int .i64 q.n, .string ⟨q.s.toArray⟩, .slice a7 q.keys.length c7, .slice a8 q.l.length c8] 25)).heap.size) := hidI ⟨box_bel hbb I.out.2.1, box_bel hbb I.out.2.2.1, box_bel hbb I.out.2.2.2.1, heap_alloc_new w4 _, bel_trans I.out.2.2.2.2.1 hbb, I.out.2.2.2.2.2.bel hbb, hr.bel (bel_alloc _ _), Nat.le_trans hwsz hbb.size⟩
            replace g0 := cell_bel hbb g0
            replace g1 := cell_bel hbb g1
            replace g2 := cell_bel hbb g2
            replace g3 := cell_bel hbb g3
            replace g4 := cell_bel hbb g4
            have X4 : Hid (In (w4.alloc (.cells #[.int .i64 q.kind, .int .i64 q.n, .string ⟨q.s.toArray⟩, .slice a7 q.keys.length c7, .slice a8 q.l.length c8] 25)) (lowN ok w.heap.size (w.heap.size + 3)) p.l[k] (.agg #[.int .i64 p.l[k].kind, .int .i64 p.l[k].n, .string ⟨p.l[k].s.toArray⟩, .slice b5 p.l[k].keys.length d5, .slice b6 p.l[k].l.length d6])) := hidI ((G5.out.bel hbb).weak lowN_low)
            have conM : Hid (∀ W, W.heap = (w4.alloc (.cells #[.int .i64 q.kind, .int .i64 q.n, .string ⟨q.s.toArray⟩, .slice a7 q.keys.length c7, .slice a8 q.l.length c8] 25)).heap → W.os = w4.os → W.tape = w4.tape → W.output = w4.output → Calls Tryz.prog 14 #[.agg #[.int .i64 q.kind, .int .i64 q.n, .string ⟨q.s.toArray⟩, .slice a7 q.keys.length c7, .slice a8 q.l.length c8], .agg #[.int .i64 p.l[k].kind, .int .i64 p.l[k].n, .string ⟨p.l[k].s.toArray⟩, .slice b5 p.l[k].keys.length d5, .slice b6 p.l[k].l.length d6]] W fun e w5 => ∃ (z : V) (b7 b8 : Option Addr) (d7 d8 : Nat), e = .returned (.agg #[.int .i64 z.kind, .int .i64 z.n, .string ⟨z.s.toArray⟩, .slice b7 z.keys.length d7, .slice b8 z.l.length d8]) ∧ z = mergeF E q p.l[k] ∧ Below (w4.alloc (.cells #[.int .i64 q.kind, .int .i64 q.n, .string ⟨q.s.toArray⟩, .slice a7 q.keys.length c7, .slice a8 q.l.length c8] 25)).heap.size (w4.alloc (.cells #[.int .i64 q.kind, .int .i64 q.n, .string ⟨q.s.toArray⟩, .slice a7 q.keys.length c7, .slice a8 q.l.length c8] 25)) w5 ∧ In w5 (lowN ok w.heap.size (w.heap.size + 3)) z (.agg #[.int .i64 z.kind, .int .i64 z.n, .string ⟨z.s.toArray⟩, .slice b7 z.keys.length d7, .slice b8 z.l.length d8])) := by
              intro W e1 e2 e3 e4
              have hbW : Below (w4.alloc (.cells #[.int .i64 q.kind, .int .i64 q.n, .string ⟨q.s.toArray⟩, .slice a7 q.keys.length c7, .slice a8 q.l.length c8] 25)).heap.size (w4.alloc (.cells #[.int .i64 q.kind, .int .i64 q.n, .string ⟨q.s.toArray⟩, .slice a7 q.keys.length c7, .slice a8 q.l.length c8] 25)) W := be0 e1 e2 e3 e4
              refine (IH.out W (lowN ok w.heap.size (w.heap.size + 3)) q p.l[k] _ _ (K.out.2.2.2.2.2.2.1.bel hbW) (X4.out.bel hbW) NQ.out (nice_mem NP.out (List.getElem_mem hlt')) (HD.out _ (List.getElem_mem hlt'))).mono ?_
              rintro e w5 ⟨r, rfl, hb, hr⟩
              obtain ⟨b7, b8, d7, d8, rfl⟩ := hr.form
              exact ⟨_, b7, b8, d7, d8, rfl, rfl, bel_trans hbW hb, hr.weak (lowN_up (Nat.le_trans K.out.2.2.2.2.2.2.2 hbW.size))⟩
            have conW : Hid (∀ (w5 : World) (z : V) (b7 b8 : Option Addr) (d7 d8 : Nat), Below (w4.alloc (.cells #[.int .i64 q.kind, .int .i64 q.n, .string ⟨q.s.toArray⟩, .slice a7 q.keys.length c7, .slice a8 q.l.length c8] 25)).heap.size (w4.alloc (.cells #[.int .i64 q.kind, .int .i64 q.n, .string ⟨q.s.toArray⟩, .slice a7 q.keys.length c7, .slice a8 q.l.length c8] 25)) w5 → In w5 (lowN ok w.heap.size (w.heap.size + 3)) z (.agg #[.int .i64 z.kind, .int .i64 z.n, .string ⟨z.s.toArray⟩, .slice b7 z.keys.length d7, .slice b8 z.l.length d8]) → ∀ W, W.heap = w5.heap → W.os = w5.os → W.tape = w5.tape → W.output = w5.output → Calls Tryz.prog 24 #[.agg #[.int .i64 y.kind, .int .i64 y.n, .string ⟨y.s.toArray⟩, .slice a5 y.keys.length c5, .slice a6 y.l.length c6], .string ⟨p.keys[k].toArray⟩, .agg #[.int .i64 z.kind, .int .i64 z.n, .string ⟨z.s.toArray⟩, .slice b7 z.keys.length d7, .slice b8 z.l.length d8]] W fun e w6 => ∃ (u : V) (e5 e6 : Option Addr) (f5 f6 : Nat), e = .returned (.agg #[.int .i64 u.kind, .int .i64 u.n, .string ⟨u.s.toArray⟩, .slice e5 u.keys.length f5, .slice e6 u.l.length f6]) ∧ u = withV y p.keys[k] z ∧ Below w5.heap.size w5 w6 ∧ In w6 (lowN ok w.heap.size (w.heap.size + 3)) u (.agg #[.int .i64 u.kind, .int .i64 u.n, .string ⟨u.s.toArray⟩, .slice e5 u.keys.length f5, .slice e6 u.l.length f6])) := by
              intro w5 z b7 b8 d7 d8 hb5 hz W e1 e2 e3 e4
              have hbW : Below w5.heap.size w5 W := be0 e1 e2 e3 e4
              refine (with_is W (lowN ok w.heap.size (w.heap.size + 3)) y z _ _ p.keys[k] ((K.out.2.2.2.2.2.1.bel hb5).bel hbW) (hz.bel hbW) MA.out.1.paired (by have := ML.out; omega) jl).mono ?_
              rintro e w6 ⟨r, rfl, hr, hb⟩
              obtain ⟨e5, e6, f5, f6, rfl⟩ := hr.form
              exact ⟨_, e5, e6, f5, f6, rfl, rfl, bel_trans hbW hb, hr.weak (lowN_up (Nat.le_trans K.out.2.2.2.2.2.2.2 (Nat.le_trans hb5.size hbW.size)))⟩
            have FIN : Hid (∀ (w5 w6 : World) (z u : V) (e5 e6 : Option Addr) (f5 f6 : Nat), Below (w4.alloc (.cells #[.int .i64 q.kind, .int .i64 q.n, .string ⟨q.s.toArray⟩, .slice a7 q.keys.length c7, .slice a8 q.l.length c8] 25)).heap.size (w4.alloc (.cells #[.int .i64 q.kind, .int .i64 q.n, .string ⟨q.s.toArray⟩, .slice a7 q.keys.length c7, .slice a8 q.l.length c8] 25)) w5 → z = mergeF E q p.l[k] → Below w5.heap.size w5 w6 → u = withV y p.keys[k] z → In w6 (lowN ok w.heap.size (w.heap.size + 3)) u (.agg #[.int .i64 u.kind, .int .i64 u.n, .string ⟨u.s.toArray⟩, .slice e5 u.keys.length f5, .slice e6 u.l.length f6]) → MgI w ok E v p (some ⟨kb, ko, none⟩) (some ⟨xb, xo, none⟩) c3 c4 (k + 1) (set5 w6 w.heap.size (.int .i64 u.kind) (.int .i64 u.n) (.string ⟨u.s.toArray⟩) (.slice e5 u.keys.length f5) (.slice e6 u.l.length f6))) := by
              intro w5 w6 z u e5 e6 f5 f6 hb5 hz hb6 hu hr
              have hbb := bel_trans hb5 hb6
              have gs := set5_gb w6 w.heap.size (.int .i64 u.kind) (.int .i64 u.n) (.string ⟨u.s.toArray⟩) (.slice e5 u.keys.length f5) (.slice e6 u.l.length f6)
              refine ⟨u, e5, e6, f5, f6, ST.out u (by rw [hu, hz, ← HQ.out, stepM, if_neg HN.out]), (box_bel hbb K.out.1).set _ _ _ _ _, (box_bel hbb K.out.2.1).grown gs (by simp), (box_bel hbb K.out.2.2.1).grown gs (by simp), bel_set5 (bel_trans K.out.2.2.2.2.1 hbb) (Nat.le_refl _) _ _ _ _ _, hr.box (Nat.le_refl _) (by omega) _ _ _ _ _⟩
            clear hq hmb hr hb4 hbb p0 p1 p2 p3 p4 y0 y1 y2 y3 y4 x0 x1 x2 x3 x4 jk
            obtain ⟨y0, y1, y2, y3, y4, -⟩ := K.out.1.c
            have p4 := K.out.2.1.c.2.2.2.2.1
            obtain ⟨q0, q1, q2, q3, q4, -⟩ := K.out.2.2.2.1.c
            go_wp2_with fail
            go_region_with (first
              | (go_at_call 14; refine (conM.out _ (by rfl) (by rfl) (by rfl) (by rfl)).mono ?_; rintro e w5 ⟨z, b7, b8, d7, d8, rfl, hz1, hz2, hz3⟩; have Z1 := hidI hz1; have Z2 := hidI hz2; have Z3 := hidI hz3; obtain ⟨s0, s1, s2, s3, s4, -⟩ := (box_bel hz2 K.out.1).c; clear hz1 hz2 hz3)
              | (go_at_call 24; refine (conW.out _ _ _ _ _ _ Z2.out Z3.out _ (by rfl) (by rfl) (by rfl) (by rfl)).mono ?_; rintro e w6 ⟨u, e5, e6, f5, f6, rfl, hu1, hu2, hu3⟩; have U1 := hidI hu1; have U2 := hidI hu2; have U3 := hidI hu3; obtain ⟨t0, t1, t2, t3, t4, t5, t6, t7, t8, t9⟩ := (box_bel (bel_trans Z2.out hu2) K.out.1).c; clear hu1 hu2 hu3))
            all_goals
              go_wp2_with fail
              go_roundg (p.keys.length - (k + 1))
              case measure => rw [GK.out]; omega
              case rel => exact ⟨k + 1, hlt, rfl, by go_num, FIN.out _ _ _ _ _ _ _ _ Z2.out Z1.out U2.out U1.out U3.out⟩
        · have hke : k = p.keys.length := by omega
          have HY : Hid (mergeF (E + 1) v p = y) := hidI (by rw [HM.out, I.out.1, List.take_of_length_le (by rw [List.length_zip]; have := HKL.out; omega)])
          have d1 : ¬ (k : Int) < (p.keys.length : Int) := by omega
          obtain ⟨z0, z1, z2, z3, z4, z5, z6, z7, z8, z9⟩ := I.out.2.2.2.1.c
          have Z : Hid (_ ∧ _) := hidI (sto_out (g := w.heap.size + 2) I.out.2.2.2.2.2 I.out.2.2.2.2.1 (by omega) (by omega))
          have ZB : Hid _ := hidI (I.out.2.2.2.1.set (.int .i64 y.kind) (.int .i64 y.n) (.string ⟨y.s.toArray⟩) (.slice a5 y.keys.length c5) (.slice a6 y.l.length c6))
          clear hke
          go_wp2_with fail
          obtain ⟨q0, q1, q2, q3, q4, -⟩ := ZB.out.c
          refine bodyPost_ret (v := .agg #[.int .i64 y.kind, .int .i64 y.n, .string ⟨y.s.toArray⟩, .slice a5 y.keys.length c5, .slice a6 y.l.length c6]) ?_ rfl ?_
          · simp only [set5] at q0 q1 q2 q3 q4
            simp [results, Tryz.results14, go_sem, q0, q1, q2, q3, q4]
          · exact ⟨_, rfl, Z.out.1, by rw [HY.out]; exact Z.out.2⟩
  · have e0 : (p.kind != 5) = true := by rw [bne_iff_ne]; exact hk
    have HM : Hid (mergeF (E + 1) v p = p) := hidI (by rw [mergeF, if_neg hk])
    clear hk
    have K := hidI ((HP.out.bel (B3.out (.cells #[.int .i64 v.kind, .int .i64 v.n, .string ⟨v.s.toArray⟩, .slice a1 v.keys.length c1, .slice a2 v.l.length c2] 25) (.cells #[.int .i64 p.kind, .int .i64 p.n, .string ⟨p.s.toArray⟩, .slice a3 p.keys.length c3, .slice a4 p.l.length c4] 25) (.cells #[.int .i64 p.kind, .int .i64 p.n, .string ⟨p.s.toArray⟩, .slice a3 p.keys.length c3, .slice a4 p.l.length c4] 25))).weak low_out)
    go_enter Tryz.func14, Tryz.ntmps14
    go_wp2_with fail
    refine bodyPost_ret (v := .agg #[.int .i64 p.kind, .int .i64 p.n, .string ⟨p.s.toArray⟩, .slice a3 p.keys.length c3, .slice a4 p.l.length c4]) ?_ rfl ?_
    · simp [results, Tryz.results14, go_sem]
    · exact ⟨_, rfl, B3.out _ _ _, by rw [HM.out]; exact K.out⟩
theorem merged_is (E : Nat) : MgC E := by
  induction E with
  | zero => intro w ok v p vv pv _ _ _ _ h; exact h.elim
  | succ E ih => exact merged_succ E ih
end Go.Proofs.YtfbddgpekbhpfacGreatDoor
