/- What merged of package stairwellref does. -/
import Derived.Test.YtfbddgpekbhpfacGreatDoorFl
import Derived.Test.YtfbddgpekbhpfacGreatDoorFw
import Derived.Test.YtfbddgpekbhpfacGreatDoorFm
set_option linter.unusedSimpArgs false
set_option linter.unusedVariables false
namespace Go.Proofs.YtfbddgpekbhpfacGreatDoor
open Go.RowKit

/- Both values, the result's box, and the object that is being made. -/
def RM (w : World) (ok : Nat → Prop) (v p : V) (a1 a2 a3 a4 : Option Addr) (c1 c2 c3 c4 : Nat) (y : V) (b1 b2 : Option Addr) (e1 e2 : Nat) (W : World) : Prop :=
  BoxIs W w.heap.size (.int .i64 v.kind) (.int .i64 v.n) (.string ⟨v.s.toArray⟩) (.slice a1 v.keys.length c1) (.slice a2 v.l.length c2) ∧ BoxIs W (w.heap.size + 1) (.int .i64 p.kind) (.int .i64 p.n) (.string ⟨p.s.toArray⟩) (.slice a3 p.keys.length c3) (.slice a4 p.l.length c4) ∧ BoxIs W (w.heap.size + 2) (.int .i64 0) (.int .i64 0) (.string ⟨#[]⟩) (.slice none 0 0) (.slice none 0 0) ∧ BoxIs W (w.heap.size + 3) (.int .i64 y.kind) (.int .i64 y.n) (.string ⟨y.s.toArray⟩) (.slice b1 y.keys.length e1) (.slice b2 y.l.length e2) ∧ Below w.heap.size w W ∧ In W (lowN ok w.heap.size (w.heap.size + 4)) y (.agg #[.int .i64 y.kind, .int .i64 y.n, .string ⟨y.s.toArray⟩, .slice b1 y.keys.length e1, .slice b2 y.l.length e2]) ∧ w.heap.size + 4 ≤ W.heap.size
theorem RM.bel {w W W' : World} {ok : Nat → Prop} {v p y : V} {a1 a2 a3 a4 : Option Addr} {c1 c2 c3 c4 : Nat} {b1 b2 : Option Addr} {e1 e2 : Nat} (h : RM w ok v p a1 a2 a3 a4 c1 c2 c3 c4 y b1 b2 e1 e2 W) (hb : Below W.heap.size W W') : RM w ok v p a1 a2 a3 a4 c1 c2 c3 c4 y b1 b2 e1 e2 W' :=
  ⟨box_bel hb h.1, box_bel hb h.2.1, box_bel hb h.2.2.1, box_bel hb h.2.2.2.1, bel_trans h.2.2.2.2.1 hb, h.2.2.2.2.2.1.bel hb, Nat.le_trans h.2.2.2.2.2.2 hb.size⟩
theorem RM.put {w W : World} {ok : Nat → Prop} {v p y u : V} {a1 a2 a3 a4 : Option Addr} {c1 c2 c3 c4 : Nat} {b1 b2 : Option Addr} {e1 e2 : Nat} {g1 g2 : Option Addr} {h1 h2 : Nat} (h : RM w ok v p a1 a2 a3 a4 c1 c2 c3 c4 y b1 b2 e1 e2 W) (hu : In W (lowN ok w.heap.size (w.heap.size + 4)) u (.agg #[.int .i64 u.kind, .int .i64 u.n, .string ⟨u.s.toArray⟩, .slice g1 u.keys.length h1, .slice g2 u.l.length h2])) : RM w ok v p a1 a2 a3 a4 c1 c2 c3 c4 u g1 g2 h1 h2 (set5 W (w.heap.size + 3) (.int .i64 u.kind) (.int .i64 u.n) (.string ⟨u.s.toArray⟩) (.slice g1 u.keys.length h1) (.slice g2 u.l.length h2)) := by
  have gs := set5_gb W (w.heap.size + 3) (.int .i64 u.kind) (.int .i64 u.n) (.string ⟨u.s.toArray⟩) (.slice g1 u.keys.length h1) (.slice g2 u.l.length h2)
  refine ⟨h.1.grown gs (by simp), h.2.1.grown gs (by simp), h.2.2.1.grown gs (by simp), h.2.2.2.1.set _ _ _ _ _, bel_set5 h.2.2.2.2.1 (by omega) _ _ _ _ _, hu.box (by omega) (by omega) _ _ _ _ _, ?_⟩
  exact Nat.le_trans h.2.2.2.2.2.2 gs.size
theorem RM.start {w : World} {ok : Nat → Prop} {v p : V} {a1 a2 a3 a4 : Option Addr} {c1 c2 c3 c4 : Nat} : RM w ok v p a1 a2 a3 a4 c1 c2 c3 c4 objT none none 0 0 ((((w.alloc (.cells #[.int .i64 v.kind, .int .i64 v.n, .string ⟨v.s.toArray⟩, .slice a1 v.keys.length c1, .slice a2 v.l.length c2] 25)).alloc (.cells #[.int .i64 p.kind, .int .i64 p.n, .string ⟨p.s.toArray⟩, .slice a3 p.keys.length c3, .slice a4 p.l.length c4] 25)).alloc (.cells #[.int .i64 0, .int .i64 0, .string ⟨#[]⟩, .slice none 0 0, .slice none 0 0] 25)).alloc (.cells #[.int .i64 5, .int .i64 0, .string ⟨#[]⟩, .slice none 0 0, .slice none 0 0] 25)) :=
  ⟨box_bel (bel_alloc _ _) (h3a w _ _ _), box_bel (bel_alloc _ _) (h3b w _ _ _), box_bel (bel_alloc _ _) (h3c w _ _ _), h4dd w _ _ _ _, bel_trans (bel_trans (bel_trans (bel_alloc _ _) (bel_alloc _ _)) (bel_alloc _ _)) (bel_alloc _ _), in_leaf _ _ 5 0 (by unfold I64; omega) (by unfold I64; omega), by simp⟩
def RMgC (E : Nat) : Prop := ∀ (w : World) (ok : Nat → Prop) (v p : V) (vv pv : Value), In w ok v vv → In w ok p pv → Nice v → Nice p → Dep E p →
  Calls Tryz.prog 16 #[vv, pv] w fun e w' => ∃ r, e = .returned r ∧ Below w.heap.size w w' ∧ In w' (okN ok w.heap.size) (mergeF E v p) r
def R1 (w : World) (ok : Nat → Prop) (v p : V) (a1 a2 a3 a4 : Option Addr) (c1 c2 c3 c4 : Nat) (k : Nat) (wr : World) : Prop := ∃ y b1 b2 e1 e2, y = ((v.keys.zip v.l).take k).foldl (stepK p) objT ∧ RM w ok v p a1 a2 a3 a4 c1 c2 c3 c4 y b1 b2 e1 e2 wr
def R2 (w : World) (ok : Nat → Prop) (E : Nat) (v p : V) (a1 a2 a3 a4 : Option Addr) (c1 c2 c3 c4 : Nat) (k : Nat) (wr : World) : Prop := ∃ y b1 b2 e1 e2, y = ((p.keys.zip p.l).take k).foldl (stepN (mergeF E) v) (keptV v p) ∧ RM w ok v p a1 a2 a3 a4 c1 c2 c3 c4 y b1 b2 e1 e2 wr
theorem r1_ob {v p : V} {k : Nat} (hv : Nice v) : Ob (((v.keys.zip v.l).take k).foldl (stepK p) objT) ∧ (((v.keys.zip v.l).take k).foldl (stepK p) objT).l.length ≤ 120 := by
  refine ⟨fold_ob (stepK_ob p) _ _ ob_objT, ?_⟩
  have h1 := foldK_len p ((v.keys.zip v.l).take k) objT
  have h2 : ((v.keys.zip v.l).take k).length ≤ v.l.length := by simp; omega
  have h3 := nice_len hv
  have h4 : objT.l.length = 0 := rfl
  omega
theorem kept_len {v p : V} (hv : Nice v) : (keptV v p).l.length ≤ 120 := by
  unfold keptV
  split
  · have h1 := foldK_len p (v.keys.zip v.l) objT
    have h2 : (v.keys.zip v.l).length ≤ v.l.length := by simp; omega
    have h3 := nice_len hv
    have h4 : objT.l.length = 0 := rfl
    omega
  · simp [objT]
theorem r2_ob {E : Nat} {v p : V} {k : Nat} (hv : Nice v) (hp : Nice p) : Ob (((p.keys.zip p.l).take k).foldl (stepN (mergeF E) v) (keptV v p)) ∧ (((p.keys.zip p.l).take k).foldl (stepN (mergeF E) v) (keptV v p)).l.length ≤ 240 := by
  refine ⟨fold_ob (stepN_ob _ _) _ _ (kept_ob v p), ?_⟩
  have h1 := foldN_len (mergeF E) v ((p.keys.zip p.l).take k) (keptV v p)
  have h2 : ((p.keys.zip p.l).take k).length ≤ p.l.length := by simp; omega
  have h3 := nice_len hp
  have h4 := kept_len (p := p) hv
  omega
theorem mem_kind {v : V} {k : List UInt8} (h : v.kind ≠ 5) : memV v k = none := by simp [memV, findV, pairedV, h]
theorem nice_old {v : V} (h : Nice v) (k : List UInt8) : Nice ((memV v k).getD zeroT) := by
  cases hm : memV v k with
  | none => exact nice_zero
  | some x => exact nice_mem h (mem_in hm)

attribute [local go_sem ↓] Go.wp_at_zero Go.wp_at_succ
set_option maxRecDepth 100000 in
set_option maxHeartbeats 8000000 in
theorem rmerged_succ (E : Nat) (ih : RMgC E) : RMgC (E + 1) := by
  intro w ok v p vv pv h hp nv np hd
  have Hv := hidI h.low
  have Hp := hidI hp.low
  have NV := hidI nv
  have NP := hidI np
  have HD := hidI hd
  have IH := hidI ih
  obtain ⟨l1, l2, l3⟩ := h.lens
  obtain ⟨l4, l5, l6⟩ := hp.lens
  obtain ⟨a1, a2, c1, c2, rfl⟩ := h.form
  obtain ⟨a3, a4, c3, c4, rfl⟩ := hp.form
  clear h hp ih nv np hd
  by_cases hk : p.kind = 5
  · have e0 : (p.kind != 5) = false := by rw [hk]; rfl
    have OP : Hid (Ob p) := hidI (nice_ob NP.out hk)
    have HM : Hid ((p.keys.zip p.l).foldl (stepN (mergeF E) v) (keptV v p) = mergeF (E + 1) v p) := hidI (rmerge_eq OP.out (nice_ob NV.out))
    have HKL : Hid (p.keys.length = p.l.length) := hidI OP.out.2.2.2.1
    have HK := hidI hk
    clear hk
    by_cases hv5 : v.kind = 5
    · have e1 : (v.kind == 5) = true := by rw [hv5]; rfl
      have OV : Hid (Ob v) := hidI (nice_ob NV.out hv5)
      have KV : Hid (keptV v p = (v.keys.zip v.l).foldl (stepK p) objT) := hidI (by rw [keptV, if_pos hv5])
      have HVL : Hid (v.keys.length = v.l.length) := hidI OV.out.2.2.2.1
      clear hv5
      have ST : Hid (RM w ok v p a1 a2 a3 a4 c1 c2 c3 c4 objT none none 0 0 _) := hidI RM.start
      obtain ⟨s0, s1, s2, s3, s4, -⟩ := ST.out.1.c
      obtain ⟨t0, t1, t2, t3, t4, -⟩ := ST.out.2.1.c
      go_enter Tryz.func16, Tryz.ntmps16
      go_upto_if 21 with fail
      go_cut [] (fun wc => R2 w ok E v p a1 a2 a3 a4 c1 c2 c3 c4 0 wc)
      case first =>
        go_wp2_with fail
        go_loopg [25] v.keys.length (fun gk i wr => ∃ k : Nat, k ≤ v.keys.length ∧ gk = v.keys.length - k ∧ i = .int .i64 k ∧ R1 w ok v p a1 a2 a3 a4 c1 c2 c3 c4 k wr)
        case atStart => exact ⟨0, Nat.zero_le _, rfl, rfl, objT, none, none, 0, 0, rfl, ST.out⟩
        case round =>
          obtain ⟨k, hk, hgk, rfl, y, b1, b2, e1', e2', hy, hI⟩ := hrel
          have GK := hidI hgk
          have I := hidI hI
          have HY := hidI hy
          clear hgk hI hy s0 s1 s2 s3 s4 t0 t1 t2 t3 t4 ST
          obtain ⟨s0, s1, s2, s3, s4, -⟩ := I.out.1.c
          obtain ⟨t0, t1, t2, t3, t4, -⟩ := I.out.2.1.c
          by_cases hlt : k < v.keys.length
          · have hlt' : k < v.l.length := by have := HVL.out; omega
            obtain ⟨kb, ko, rfl, j1, j2, jk, jl⟩ := Hv.out.key hlt
            obtain ⟨xb, xo, b5, d5, b6, d6, rfl, j3, j4, g0, g1, g2, g3, g4, g5⟩ := Hv.out.item hlt'
            have G0 := hidI g0
            have G1 := hidI g1
            have G2 := hidI g2
            have G3 := hidI g3
            have G4 := hidI g4
            have XI := hidI g5
            have w1 : (0 : Int) ≤ (k : Int) := by omega
            have w2 : (k : Int) < (v.l.length : Int) := by omega
            have w3 : (k : Int) < (v.keys.length : Int) := by omega
            replace jk := cell_bel I.out.2.2.2.2.1 jk
            have OY : Hid (Ob y) := hidI (by rw [HY.out]; exact (r1_ob NV.out).1)
            have LY : Hid (y.l.length ≤ 120) := hidI (by rw [HY.out]; exact (r1_ob NV.out).2)
            go_wp2_with fail
            refine (rmember_is _ (fun k => ok k ∧ k < w.heap.size) p _ v.keys[k] (by exact Hp.out.bel I.out.2.2.2.2.1)).mono ?_
            rintro e w4 ⟨r, rfl, hb4, hr⟩
            obtain ⟨q, hq⟩ : ∃ q, (memV p v.keys[k]).getD zeroT = q := ⟨_, rfl⟩
            rw [hq] at hr
            obtain ⟨g3, g4, h3, h4, rfl⟩ := hr.form
            have hbb := bel_trans hb4 (bel_alloc w4 (.cells #[.int .i64 q.kind, .int .i64 q.n, .string ⟨q.s.toArray⟩, .slice g3 q.keys.length h3, .slice g4 q.l.length h4] 25))
            have K := hidI (I.out.bel hbb)
            clear hq hr hb4 hbb s0 s1 s2 s3 s4 t0 t1 t2 t3 t4 jk
            cases hm : (memV p v.keys[k]).isSome with
            | true =>
              have FIN : Hid (R1 w ok v p (some ⟨kb, ko, none⟩) (some ⟨xb, xo, none⟩) a3 a4 c1 c2 c3 c4 (k + 1) (w4.alloc (.cells #[.int .i64 q.kind, .int .i64 q.n, .string ⟨q.s.toArray⟩, .slice g3 q.keys.length h3, .slice g4 q.l.length h4] 25))) := hidI ⟨y, b1, b2, e1', e2', by rw [zip_step hlt hlt', ← HY.out, stepK, if_pos hm], K.out⟩
              clear hm
              obtain ⟨s0, s1, s2, s3, s4, -⟩ := K.out.1.c
              obtain ⟨t0, t1, t2, t3, t4, -⟩ := K.out.2.1.c
              go_wp2_with fail
              go_roundg (v.keys.length - (k + 1))
              case measure => rw [GK.out]; omega
              case rel => exact ⟨k + 1, hlt, rfl, by go_num, FIN.out⟩
            | false =>
              have FIN : Hid (∀ u, u = withV y v.keys[k] v.l[k] → ∀ (W : World) (g1 g2 : Option Addr) (h1 h2 : Nat), RM w ok v p (some ⟨kb, ko, none⟩) (some ⟨xb, xo, none⟩) a3 a4 c1 c2 c3 c4 y b1 b2 e1' e2' W → In W (lowN ok w.heap.size (w.heap.size + 4)) u (.agg #[.int .i64 u.kind, .int .i64 u.n, .string ⟨u.s.toArray⟩, .slice g1 u.keys.length h1, .slice g2 u.l.length h2]) → R1 w ok v p (some ⟨kb, ko, none⟩) (some ⟨xb, xo, none⟩) a3 a4 c1 c2 c3 c4 (k + 1) (set5 W (w.heap.size + 3) (.int .i64 u.kind) (.int .i64 u.n) (.string ⟨u.s.toArray⟩) (.slice g1 u.keys.length h1) (.slice g2 u.l.length h2))) := hidI (by
                intro u hu W g1 g2 h1 h2 hW hI
                exact ⟨u, g1, g2, h1, h2, by rw [zip_step hlt hlt', ← HY.out, stepK, if_neg (by rw [hm]; simp), hu], hW.put hI⟩)
              clear hm
              go_upto_region 10 with fail
              refine wp_region_T (fun wS => RM w ok v p (some ⟨kb, ko, none⟩) (some ⟨xb, xo, none⟩) a3 a4 c1 c2 c3 c4 y b1 b2 e1' e2' wS) [8] (by kernel_rfl) (K.out.bel (bel_drewN _ 1)) (fun hHeld => ?_)
              refine wpAnyT_take (i := 0) (v := ?_) [7, 8] (oi := { dst := some 38, op := Go.Op.load 25 (Go.Operand.tmp 5), type := 25, pos := "high.go:132", after := #[], guard := none }) rfl (by kernel_rfl) (by kernel_rfl) (by kernel_rfl) (by kernel_rfl) (fun _ _ _ h => h) (Or.inl ⟨by rfl, ?_⟩) hHeld ?_
              rotate_left
              · intro wS hSw
                obtain ⟨v0, v1, v2, v3, v4, -⟩ := hSw.1.c
                obtain ⟨y0, y1, y2, y3, y4, -⟩ := hSw.2.2.2.1.c
                have i0 := cell_bel hSw.2.2.2.2.1 G0.out
                have i1 := cell_bel hSw.2.2.2.2.1 G1.out
                have i2 := cell_bel hSw.2.2.2.2.1 G2.out
                have i3 := cell_bel hSw.2.2.2.2.1 G3.out
                have i4 := cell_bel hSw.2.2.2.2.1 G4.out
                go_simp
                all_goals with_reducible rfl
              simp only [Act.put, List.setIfInBounds_toArray, List.set_cons_zero, List.set_cons_succ]
              refine wpAnyT_take (i := 1) (v := ?_) [7, 8] (oi := { dst := some 39, op := Go.Op.move (Go.Operand.tmp 7), type := 9, pos := "high.go:132", after := #[], guard := none }) rfl (by kernel_rfl) (by kernel_rfl) (by kernel_rfl) (by kernel_rfl) (fun _ _ _ h => h) (Or.inl ⟨by rfl, ?_⟩) hHeld ?_
              rotate_left
              · intro wS hSw
                go_simp
                all_goals with_reducible rfl
              simp only [Act.put, List.setIfInBounds_toArray, List.set_cons_zero, List.set_cons_succ]
              refine wpAnyT_take (i := 2) (v := ?_) [3, 5, 6, 7, 8] (oi := { dst := some 40, op := Go.Op.fieldAddr 25 (Go.Operand.tmp 2) 4, type := 0, pos := "high.go:132", after := #[], guard := none }) rfl (by kernel_rfl) (by kernel_rfl) (by kernel_rfl) (by kernel_rfl) (fun _ _ _ h => h) (Or.inl ⟨by rfl, ?_⟩) hHeld ?_
              rotate_left
              · intro wS hSw
                go_simp
                all_goals with_reducible rfl
              simp only [Act.put, List.setIfInBounds_toArray, List.set_cons_zero, List.set_cons_succ]
              refine wpAnyT_take (i := 3) (v := ?_) [5, 6, 7, 8] (oi := { dst := some 41, op := Go.Op.load 23 (Go.Operand.tmp 40), type := 23, pos := "high.go:132", after := #[{ on := 2, ground := Go.Ground.data }], guard := none }) rfl (by kernel_rfl) (by kernel_rfl) (by kernel_rfl) (by kernel_rfl) (fun _ _ _ h => h) (Or.inl ⟨by rfl, ?_⟩) hHeld ?_
              rotate_left
              · intro wS hSw
                obtain ⟨v0, v1, v2, v3, v4, -⟩ := hSw.1.c
                obtain ⟨y0, y1, y2, y3, y4, -⟩ := hSw.2.2.2.1.c
                have i0 := cell_bel hSw.2.2.2.2.1 G0.out
                have i1 := cell_bel hSw.2.2.2.2.1 G1.out
                have i2 := cell_bel hSw.2.2.2.2.1 G2.out
                have i3 := cell_bel hSw.2.2.2.2.1 G3.out
                have i4 := cell_bel hSw.2.2.2.2.1 G4.out
                go_simp
                all_goals with_reducible rfl
              simp only [Act.put, List.setIfInBounds_toArray, List.set_cons_zero, List.set_cons_succ]
              refine wpAnyT_take (i := 4) (v := ?_) [5, 6, 7, 8] (oi := { dst := some 42, op := Go.Op.move (Go.Operand.tmp 6), type := 3, pos := "high.go:132", after := #[], guard := none }) rfl (by kernel_rfl) (by kernel_rfl) (by kernel_rfl) (by kernel_rfl) (fun _ _ _ h => h) (Or.inl ⟨by rfl, ?_⟩) hHeld ?_
              rotate_left
              · intro wS hSw
                go_simp
                all_goals with_reducible rfl
              simp only [Act.put, List.setIfInBounds_toArray, List.set_cons_zero, List.set_cons_succ]
              refine wpAnyT_take (i := 5) (v := ?_) [6, 7, 8] (oi := { dst := some 43, op := Go.Op.indexAddr 23 (Go.Operand.tmp 41) (Go.Operand.tmp 42), type := 0, pos := "high.go:132", after := #[{ on := 3, ground := Go.Ground.data }, { on := 4, ground := Go.Ground.data }], guard := none }) rfl (by kernel_rfl) (by kernel_rfl) (by kernel_rfl) (by kernel_rfl) (fun _ _ _ h => h) (Or.inl ⟨by rfl, ?_⟩) hHeld ?_
              rotate_left
              · intro wS hSw
                go_simp
                all_goals with_reducible rfl
              simp only [Act.put, List.setIfInBounds_toArray, List.set_cons_zero, List.set_cons_succ]
              refine wpAnyT_take (i := 6) (v := ?_) [7, 8] (oi := { dst := some 44, op := Go.Op.load 25 (Go.Operand.tmp 43), type := 25, pos := "high.go:132", after := #[{ on := 5, ground := Go.Ground.data }], guard := none }) rfl (by kernel_rfl) (by kernel_rfl) (by kernel_rfl) (by kernel_rfl) (fun _ _ _ h => h) (Or.inl ⟨by rfl, ?_⟩) hHeld ?_
              rotate_left
              · intro wS hSw
                obtain ⟨v0, v1, v2, v3, v4, -⟩ := hSw.1.c
                obtain ⟨y0, y1, y2, y3, y4, -⟩ := hSw.2.2.2.1.c
                have i0 := cell_bel hSw.2.2.2.2.1 G0.out
                have i1 := cell_bel hSw.2.2.2.2.1 G1.out
                have i2 := cell_bel hSw.2.2.2.2.1 G2.out
                have i3 := cell_bel hSw.2.2.2.2.1 G3.out
                have i4 := cell_bel hSw.2.2.2.2.1 G4.out
                go_simp
                all_goals with_reducible rfl
              simp only [Act.put, List.setIfInBounds_toArray, List.set_cons_zero, List.set_cons_succ]
              refine wpAnyT_ready (rs := [7]) (by kernel_rfl) (by simp) ?_
              refine AllReadyT.cons (i := 7) (o := { dst := some 45, op := Go.Op.call { callee := Go.Callee.value (Go.Operand.func 28), args := #[Go.Operand.tmp 38, Go.Operand.tmp 39, Go.Operand.tmp 44], argTypes := #[25, 9, 25] }, type := 25, pos := "high.go:132", after := #[{ on := 0, ground := Go.Ground.data }, { on := 1, ground := Go.Ground.data }, { on := 6, ground := Go.Ground.data }], guard := none }) rfl (fun K hK => ?_) ?_
              · go_simp
                refine (rwith_is _ (lowN ok w.heap.size (w.heap.size + 4)) y v.l[k] _ _ v.keys[k] (by exact hHeld.2.2.2.2.2.1) (by exact (XI.out.bel hHeld.2.2.2.2.1).weak lowN_low) OY.out (by have := LY.out; omega) jl).mono ?_
                rintro e w7q ⟨r, rfl, hr, hb⟩
                obtain ⟨u, hu⟩ : ∃ u, withV y v.keys[k] v.l[k] = u := ⟨_, rfl⟩
                rw [hu] at hr
                obtain ⟨g1, g2, h1, h2, rfl⟩ := hr.form
                have U : Hid (In w7q (lowN ok w.heap.size (w.heap.size + 4)) u (.agg #[.int .i64 u.kind, .int .i64 u.n, .string ⟨u.s.toArray⟩, .slice g1 u.keys.length h1, .slice g2 u.l.length h2])) := hidI (hr.weak (lowN_up hHeld.2.2.2.2.2.2))
                have HU := hidI hu
                refine hK.out _ _ (hHeld.bel hb) (fun hHeld2 => ?_)
                clear hu hr hb
                clear hK K
                replace hHeld := hHeld2
                clear hHeld2
                try simp only [Act.put, List.setIfInBounds_toArray, List.set_cons_zero, List.set_cons_succ]
                obtain ⟨o0, o1, o2, o3, o4, f0, f1, f2, f3, f4⟩ := hHeld.2.2.2.1.c
                have HE := hidI hHeld
                clear hHeld
                refine wpAnyT_last (i := 8) (o := { dst := none, op := Go.Op.store 25 (Go.Operand.tmp 5) (Go.Operand.tmp 45), type := 0, pos := "high.go:132", after := #[{ on := 7, ground := Go.Ground.data }, { on := 7, ground := Go.Ground.chain }, { on := 0, ground := Go.Ground.phase }, { on := 1, ground := Go.Ground.phase }, { on := 2, ground := Go.Ground.phase }, { on := 3, ground := Go.Ground.phase }, { on := 4, ground := Go.Ground.phase }, { on := 5, ground := Go.Ground.phase }, { on := 6, ground := Go.Ground.phase }, { on := 7, ground := Go.Ground.phase }], guard := none }) (by kernel_rfl) (by rfl) rfl (fun K hK => ?_)
                go_simp
                refine hK.out _ _ ?_
                clear hK K
                try simp only [Act.put, List.setIfInBounds_toArray, List.set_cons_zero, List.set_cons_succ]
                refine wpAnyT_done (by kernel_rfl) ?_ _
                go_wp2_with fail
                go_roundg (v.keys.length - (k + 1))
                case measure => rw [GK.out]; omega
                case rel => exact ⟨k + 1, hlt, rfl, by go_num, FIN.out u HU.out.symm _ _ _ _ _ HE.out U.out⟩
              exact AllReadyT.nil
          · have hke : k = v.keys.length := by omega
            have FIN : Hid (R2 w ok E v p a1 a2 a3 a4 c1 c2 c3 c4 0 wr) := hidI ⟨y, b1, b2, e1', e2', by rw [List.take_zero, List.foldl_nil, KV.out, HY.out, List.take_of_length_le (by rw [List.length_zip]; have := HVL.out; omega)], I.out⟩
            have d1 : ¬ (k : Int) < (v.keys.length : Int) := by omega
            clear hke
            go_wp2_with fail
            go_meet
            case rel => exact FIN.out
      case rest =>
        have I0 := hidI hcut
        clear s0 s1 s2 s3 s4 t0 t1 t2 t3 t4 ST
        obtain ⟨y, b1, b2, e1', e2', -, i1⟩ := hcut
        obtain ⟨t0, t1, t2, t3, t4, -⟩ := i1.2.1.c
        clear i1
        go_wp2_with fail
        go_loopg [50] p.keys.length (fun gk i wr => ∃ k : Nat, k ≤ p.keys.length ∧ gk = p.keys.length - k ∧ i = .int .i64 k ∧ R2 w ok E v p a1 a2 a3 a4 c1 c2 c3 c4 k wr)
        case atStart => exact ⟨0, Nat.zero_le _, rfl, rfl, I0.out⟩
        case round =>
          clear t0 t1 t2 t3 t4 I0
          obtain ⟨k, hk, hgk, rfl, y, b1, b2, e1', e2', hy, hI⟩ := hrel
          have GK := hidI hgk
          have I := hidI hI
          have HY := hidI hy
          clear hgk hI hy
          obtain ⟨s0, s1, s2, s3, s4, -⟩ := I.out.1.c
          obtain ⟨t0, t1, t2, t3, t4, -⟩ := I.out.2.1.c
          by_cases hlt : k < p.keys.length
          · have hlt' : k < p.l.length := by have := HKL.out; omega
            obtain ⟨kb, ko, rfl, j1, j2, jk, jl⟩ := Hp.out.key hlt
            obtain ⟨xb, xo, b5, d5, b6, d6, rfl, j3, j4, g0, g1, g2, g3, g4, g5⟩ := Hp.out.item hlt'
            have G0 := hidI g0
            have G1 := hidI g1
            have G2 := hidI g2
            have G3 := hidI g3
            have G4 := hidI g4
            have XI := hidI g5
            have w1 : (0 : Int) ≤ (k : Int) := by omega
            have w2 : (k : Int) < (p.l.length : Int) := by omega
            have w3 : (k : Int) < (p.keys.length : Int) := by omega
            replace jk := cell_bel I.out.2.2.2.2.1 jk
            replace g0 := cell_bel I.out.2.2.2.2.1 g0
            have OY : Hid (Ob y) := hidI (by rw [HY.out]; exact (r2_ob NV.out NP.out).1)
            have LY : Hid (y.l.length ≤ 240) := hidI (by rw [HY.out]; exact (r2_ob NV.out NP.out).2)
            by_cases hn : p.l[k].kind = 0
            · have e3 : (p.l[k].kind != 0) = false := by rw [hn]; rfl
              have FIN : Hid (R2 w ok E v p a1 a2 (some ⟨kb, ko, none⟩) (some ⟨xb, xo, none⟩) c1 c2 c3 c4 (k + 1) wr) := hidI ⟨y, b1, b2, e1', e2', by rw [zip_step hlt hlt', ← HY.out, stepN, if_pos hn], I.out⟩
              clear hn
              go_wp2_with fail
              go_roundg (p.keys.length - (k + 1))
              case measure => rw [GK.out]; omega
              case rel => exact ⟨k + 1, hlt, rfl, by go_num, FIN.out⟩
            · have e3 : (p.l[k].kind != 0) = true := by rw [bne_iff_ne]; exact hn
              have HN := hidI hn
              clear hn
              go_wp2_with fail
              refine (rmember_is _ (fun k => ok k ∧ k < w.heap.size) v _ p.keys[k] (by exact Hv.out.bel I.out.2.2.2.2.1)).mono ?_
              rintro e w4 ⟨r, rfl, hb4, hr⟩
              obtain ⟨q, hq⟩ : ∃ q, (memV v p.keys[k]).getD zeroT = q := ⟨_, rfl⟩
              rw [hq] at hr
              obtain ⟨mb, hmb⟩ : ∃ mb, (memV v p.keys[k]).isSome = mb := ⟨_, rfl⟩
              rw [hmb]
              have NQ : Hid (Nice q) := hidI (by rw [← hq]; exact nice_old NV.out _)
              obtain ⟨g3, g4, h3, h4, rfl⟩ := hr.form
              have hbb := bel_trans hb4 (bel_alloc w4 (.cells #[.int .i64 q.kind, .int .i64 q.n, .string ⟨q.s.toArray⟩, .slice g3 q.keys.length h3, .slice g4 q.l.length h4] 25))
              have K := hidI (I.out.bel hbb)
              have KQ : Hid (BoxIs (w4.alloc (.cells #[.int .i64 q.kind, .int .i64 q.n, .string ⟨q.s.toArray⟩, .slice g3 q.keys.length h3, .slice g4 q.l.length h4] 25)) w4.heap.size (.int .i64 q.kind) (.int .i64 q.n) (.string ⟨q.s.toArray⟩) (.slice g3 q.keys.length h3) (.slice g4 q.l.length h4) ∧ In (w4.alloc (.cells #[.int .i64 q.kind, .int .i64 q.n, .string ⟨q.s.toArray⟩, .slice g3 q.keys.length h3, .slice g4 q.l.length h4] 25)) (lowN ok w.heap.size (w.heap.size + 4)) q (.agg #[.int .i64 q.kind, .int .i64 q.n, .string ⟨q.s.toArray⟩, .slice g3 q.keys.length h3, .slice g4 q.l.length h4])) := hidI ⟨heap_alloc_new w4 _, (hr.bel (bel_alloc _ _)).weak lowN_low⟩
              have FIN : Hid (∀ z u, mergeF E q p.l[k] = z → u = withV y p.keys[k] z → ∀ (W : World) (g1 g2 : Option Addr) (h1 h2 : Nat), RM w ok v p a1 a2 (some ⟨kb, ko, none⟩) (some ⟨xb, xo, none⟩) c1 c2 c3 c4 y b1 b2 e1' e2' W → In W (lowN ok w.heap.size (w.heap.size + 4)) u (.agg #[.int .i64 u.kind, .int .i64 u.n, .string ⟨u.s.toArray⟩, .slice g1 u.keys.length h1, .slice g2 u.l.length h2]) → R2 w ok E v p a1 a2 (some ⟨kb, ko, none⟩) (some ⟨xb, xo, none⟩) c1 c2 c3 c4 (k + 1) (set5 W (w.heap.size + 3) (.int .i64 u.kind) (.int .i64 u.n) (.string ⟨u.s.toArray⟩) (.slice g1 u.keys.length h1) (.slice g2 u.l.length h2))) := hidI (by
                intro z u hz hu W g1 g2 h1 h2 hW hI
                exact ⟨u, g1, g2, h1, h2, by rw [zip_step hlt hlt', ← HY.out, stepN, if_neg HN.out, hq, hz, hu], hW.put hI⟩)
              clear hq hmb hr hb4 hbb s0 s1 s2 s3 s4 t0 t1 t2 t3 t4 jk g0
              go_upto_region 17 with fail
              refine wp_region_T (fun wS => RM w ok v p a1 a2 (some ⟨kb, ko, none⟩) (some ⟨xb, xo, none⟩) c1 c2 c3 c4 y b1 b2 e1' e2' wS ∧ BoxIs wS w4.heap.size (.int .i64 q.kind) (.int .i64 q.n) (.string ⟨q.s.toArray⟩) (.slice g3 q.keys.length h3) (.slice g4 q.l.length h4) ∧ In wS (lowN ok w.heap.size (w.heap.size + 4)) q (.agg #[.int .i64 q.kind, .int .i64 q.n, .string ⟨q.s.toArray⟩, .slice g3 q.keys.length h3, .slice g4 q.l.length h4])) [10] (by kernel_rfl) ⟨K.out.bel (bel_drewN _ 1), box_bel (bel_drewN _ 1) KQ.out.1, KQ.out.2.bel (bel_drewN _ 1)⟩ (fun hHeld => ?_)
              refine wpAnyT_take (i := 0) (v := ?_) [9, 10] (oi := { dst := some 68, op := Go.Op.load 25 (Go.Operand.tmp 5), type := 25, pos := "high.go:139", after := #[], guard := none }) rfl (by kernel_rfl) (by kernel_rfl) (by kernel_rfl) (by kernel_rfl) (fun _ _ _ h => h) (Or.inl ⟨by rfl, ?_⟩) hHeld ?_
              rotate_left
              · intro wS hSw
                obtain ⟨v0, v1, v2, v3, v4, -⟩ := hSw.1.2.1.c
                obtain ⟨y0, y1, y2, y3, y4, -⟩ := hSw.1.2.2.2.1.c
                obtain ⟨q0, q1, q2, q3, q4, -⟩ := hSw.2.1.c
                have i0 := cell_bel hSw.1.2.2.2.2.1 G0.out
                have i1 := cell_bel hSw.1.2.2.2.2.1 G1.out
                have i2 := cell_bel hSw.1.2.2.2.2.1 G2.out
                have i3 := cell_bel hSw.1.2.2.2.2.1 G3.out
                have i4 := cell_bel hSw.1.2.2.2.2.1 G4.out
                go_simp
                all_goals with_reducible rfl
              simp only [Act.put, List.setIfInBounds_toArray, List.set_cons_zero, List.set_cons_succ]
              refine wpAnyT_take (i := 1) (v := ?_) [9, 10] (oi := { dst := some 69, op := Go.Op.move (Go.Operand.tmp 11), type := 9, pos := "high.go:139", after := #[], guard := none }) rfl (by kernel_rfl) (by kernel_rfl) (by kernel_rfl) (by kernel_rfl) (fun _ _ _ h => h) (Or.inl ⟨by rfl, ?_⟩) hHeld ?_
              rotate_left
              · intro wS hSw
                go_simp
                all_goals with_reducible rfl
              simp only [Act.put, List.setIfInBounds_toArray, List.set_cons_zero, List.set_cons_succ]
              refine wpAnyT_take (i := 2) (v := ?_) [8, 9, 10] (oi := { dst := some 70, op := Go.Op.load 25 (Go.Operand.tmp 12), type := 25, pos := "high.go:139", after := #[], guard := none }) rfl (by kernel_rfl) (by kernel_rfl) (by kernel_rfl) (by kernel_rfl) (fun _ _ _ h => h) (Or.inl ⟨by rfl, ?_⟩) hHeld ?_
              rotate_left
              · intro wS hSw
                obtain ⟨v0, v1, v2, v3, v4, -⟩ := hSw.1.2.1.c
                obtain ⟨y0, y1, y2, y3, y4, -⟩ := hSw.1.2.2.2.1.c
                obtain ⟨q0, q1, q2, q3, q4, -⟩ := hSw.2.1.c
                have i0 := cell_bel hSw.1.2.2.2.2.1 G0.out
                have i1 := cell_bel hSw.1.2.2.2.2.1 G1.out
                have i2 := cell_bel hSw.1.2.2.2.2.1 G2.out
                have i3 := cell_bel hSw.1.2.2.2.2.1 G3.out
                have i4 := cell_bel hSw.1.2.2.2.2.1 G4.out
                go_simp
                all_goals with_reducible rfl
              simp only [Act.put, List.setIfInBounds_toArray, List.set_cons_zero, List.set_cons_succ]
              refine wpAnyT_take (i := 3) (v := ?_) [4, 6, 7, 8, 9, 10] (oi := { dst := some 71, op := Go.Op.fieldAddr 25 (Go.Operand.tmp 3) 4, type := 0, pos := "high.go:139", after := #[], guard := none }) rfl (by kernel_rfl) (by kernel_rfl) (by kernel_rfl) (by kernel_rfl) (fun _ _ _ h => h) (Or.inl ⟨by rfl, ?_⟩) hHeld ?_
              rotate_left
              · intro wS hSw
                go_simp
                all_goals with_reducible rfl
              simp only [Act.put, List.setIfInBounds_toArray, List.set_cons_zero, List.set_cons_succ]
              refine wpAnyT_take (i := 4) (v := ?_) [6, 7, 8, 9, 10] (oi := { dst := some 72, op := Go.Op.load 23 (Go.Operand.tmp 71), type := 23, pos := "high.go:139", after := #[{ on := 3, ground := Go.Ground.data }], guard := none }) rfl (by kernel_rfl) (by kernel_rfl) (by kernel_rfl) (by kernel_rfl) (fun _ _ _ h => h) (Or.inl ⟨by rfl, ?_⟩) hHeld ?_
              rotate_left
              · intro wS hSw
                obtain ⟨v0, v1, v2, v3, v4, -⟩ := hSw.1.2.1.c
                obtain ⟨y0, y1, y2, y3, y4, -⟩ := hSw.1.2.2.2.1.c
                obtain ⟨q0, q1, q2, q3, q4, -⟩ := hSw.2.1.c
                have i0 := cell_bel hSw.1.2.2.2.2.1 G0.out
                have i1 := cell_bel hSw.1.2.2.2.2.1 G1.out
                have i2 := cell_bel hSw.1.2.2.2.2.1 G2.out
                have i3 := cell_bel hSw.1.2.2.2.2.1 G3.out
                have i4 := cell_bel hSw.1.2.2.2.2.1 G4.out
                go_simp
                all_goals with_reducible rfl
              simp only [Act.put, List.setIfInBounds_toArray, List.set_cons_zero, List.set_cons_succ]
              refine wpAnyT_take (i := 5) (v := ?_) [6, 7, 8, 9, 10] (oi := { dst := some 73, op := Go.Op.move (Go.Operand.tmp 10), type := 3, pos := "high.go:139", after := #[], guard := none }) rfl (by kernel_rfl) (by kernel_rfl) (by kernel_rfl) (by kernel_rfl) (fun _ _ _ h => h) (Or.inl ⟨by rfl, ?_⟩) hHeld ?_
              rotate_left
              · intro wS hSw
                go_simp
                all_goals with_reducible rfl
              simp only [Act.put, List.setIfInBounds_toArray, List.set_cons_zero, List.set_cons_succ]
              refine wpAnyT_take (i := 6) (v := ?_) [7, 8, 9, 10] (oi := { dst := some 74, op := Go.Op.indexAddr 23 (Go.Operand.tmp 72) (Go.Operand.tmp 73), type := 0, pos := "high.go:139", after := #[{ on := 4, ground := Go.Ground.data }, { on := 5, ground := Go.Ground.data }], guard := none }) rfl (by kernel_rfl) (by kernel_rfl) (by kernel_rfl) (by kernel_rfl) (fun _ _ _ h => h) (Or.inl ⟨by rfl, ?_⟩) hHeld ?_
              rotate_left
              · intro wS hSw
                go_simp
                all_goals with_reducible rfl
              simp only [Act.put, List.setIfInBounds_toArray, List.set_cons_zero, List.set_cons_succ]
              refine wpAnyT_take (i := 7) (v := ?_) [8, 9, 10] (oi := { dst := some 75, op := Go.Op.load 25 (Go.Operand.tmp 74), type := 25, pos := "high.go:139", after := #[{ on := 6, ground := Go.Ground.data }], guard := none }) rfl (by kernel_rfl) (by kernel_rfl) (by kernel_rfl) (by kernel_rfl) (fun _ _ _ h => h) (Or.inl ⟨by rfl, ?_⟩) hHeld ?_
              rotate_left
              · intro wS hSw
                obtain ⟨v0, v1, v2, v3, v4, -⟩ := hSw.1.2.1.c
                obtain ⟨y0, y1, y2, y3, y4, -⟩ := hSw.1.2.2.2.1.c
                obtain ⟨q0, q1, q2, q3, q4, -⟩ := hSw.2.1.c
                have i0 := cell_bel hSw.1.2.2.2.2.1 G0.out
                have i1 := cell_bel hSw.1.2.2.2.2.1 G1.out
                have i2 := cell_bel hSw.1.2.2.2.2.1 G2.out
                have i3 := cell_bel hSw.1.2.2.2.2.1 G3.out
                have i4 := cell_bel hSw.1.2.2.2.2.1 G4.out
                go_simp
                all_goals with_reducible rfl
              simp only [Act.put, List.setIfInBounds_toArray, List.set_cons_zero, List.set_cons_succ]
              refine wpAnyT_ready (rs := [8]) (by kernel_rfl) (by simp) ?_
              refine AllReadyT.cons (i := 8) (o := { dst := some 76, op := Go.Op.call { callee := Go.Callee.value (Go.Operand.func 16), args := #[Go.Operand.tmp 70, Go.Operand.tmp 75], argTypes := #[25, 25] }, type := 25, pos := "high.go:139", after := #[{ on := 2, ground := Go.Ground.data }, { on := 7, ground := Go.Ground.data }], guard := none }) rfl (fun K hK => ?_) ?_
              · go_simp
                refine (IH.out _ (lowN ok w.heap.size (w.heap.size + 4)) q p.l[k] _ _ (by exact hHeld.2.2) (by exact (XI.out.bel hHeld.1.2.2.2.2.1).weak lowN_low) NQ.out (nice_mem NP.out (List.getElem_mem hlt')) (HD.out _ (List.getElem_mem hlt'))).mono ?_
                rintro e w8q ⟨r, rfl, hb, hr⟩
                obtain ⟨z, hz⟩ : ∃ z, mergeF E q p.l[k] = z := ⟨_, rfl⟩
                rw [hz] at hr
                have ZZ := hidI (hr.weak (lowN_up hHeld.1.2.2.2.2.2.2))
                have HZ := hidI hz
                refine hK.out _ _ (⟨hHeld.1.bel hb, box_bel hb hHeld.2.1, hHeld.2.2.bel hb⟩) (fun hHeld2 => ?_)
                clear hz hr hb
                clear hK K
                replace hHeld := hHeld2
                clear hHeld2
                try simp only [Act.put, List.setIfInBounds_toArray, List.set_cons_zero, List.set_cons_succ]
                refine wpAnyT_ready (rs := [9]) (by kernel_rfl) (by simp) ?_
                refine AllReadyT.cons (i := 9) (o := { dst := some 77, op := Go.Op.call { callee := Go.Callee.value (Go.Operand.func 28), args := #[Go.Operand.tmp 68, Go.Operand.tmp 69, Go.Operand.tmp 76], argTypes := #[25, 9, 25] }, type := 25, pos := "high.go:139", after := #[{ on := 0, ground := Go.Ground.data }, { on := 1, ground := Go.Ground.data }, { on := 8, ground := Go.Ground.data }, { on := 8, ground := Go.Ground.chain }], guard := none }) rfl (fun K hK => ?_) ?_
                · go_simp
                  refine (rwith_is _ (lowN ok w.heap.size (w.heap.size + 4)) y z _ _ p.keys[k] (by exact hHeld.1.2.2.2.2.2.1) (by exact ZZ.out) OY.out (by have := LY.out; omega) jl).mono ?_
                  rintro e w9q ⟨r2, rfl, hr2, hb⟩
                  obtain ⟨u, hu⟩ : ∃ u, withV y p.keys[k] z = u := ⟨_, rfl⟩
                  rw [hu] at hr2
                  obtain ⟨g1, g2, h1, h2, rfl⟩ := hr2.form
                  have U : Hid (In w9q (lowN ok w.heap.size (w.heap.size + 4)) u (.agg #[.int .i64 u.kind, .int .i64 u.n, .string ⟨u.s.toArray⟩, .slice g1 u.keys.length h1, .slice g2 u.l.length h2])) := hidI (hr2.weak (lowN_up hHeld.1.2.2.2.2.2.2))
                  have HU := hidI hu
                  refine hK.out _ _ (⟨hHeld.1.bel hb, box_bel hb hHeld.2.1, hHeld.2.2.bel hb⟩) (fun hHeld2 => ?_)
                  clear hu hr2 hb
                  clear hK K
                  replace hHeld := hHeld2
                  clear hHeld2
                  try simp only [Act.put, List.setIfInBounds_toArray, List.set_cons_zero, List.set_cons_succ]
                  obtain ⟨o0, o1, o2, o3, o4, f0, f1, f2, f3, f4⟩ := hHeld.1.2.2.2.1.c
                  have HE := hidI hHeld
                  clear hHeld
                  refine wpAnyT_last (i := 10) (o := { dst := none, op := Go.Op.store 25 (Go.Operand.tmp 5) (Go.Operand.tmp 77), type := 0, pos := "high.go:139", after := #[{ on := 9, ground := Go.Ground.data }, { on := 9, ground := Go.Ground.chain }, { on := 0, ground := Go.Ground.phase }, { on := 1, ground := Go.Ground.phase }, { on := 2, ground := Go.Ground.phase }, { on := 3, ground := Go.Ground.phase }, { on := 4, ground := Go.Ground.phase }, { on := 5, ground := Go.Ground.phase }, { on := 6, ground := Go.Ground.phase }, { on := 7, ground := Go.Ground.phase }, { on := 8, ground := Go.Ground.phase }, { on := 9, ground := Go.Ground.phase }], guard := none }) (by kernel_rfl) (by rfl) rfl (fun K hK => ?_)
                  go_simp
                  refine hK.out _ _ ?_
                  clear hK K
                  try simp only [Act.put, List.setIfInBounds_toArray, List.set_cons_zero, List.set_cons_succ]
                  refine wpAnyT_done (by kernel_rfl) ?_ _
                  go_wp2_with fail
                  go_roundg (p.keys.length - (k + 1))
                  case measure => rw [GK.out]; omega
                  case rel => exact ⟨k + 1, hlt, rfl, by go_num, FIN.out z u HZ.out HU.out.symm _ _ _ _ _ HE.out.1 U.out⟩
                exact AllReadyT.nil
              exact AllReadyT.nil
          · have hke : k = p.keys.length := by omega
            have HF : Hid (mergeF (E + 1) v p = y) := hidI (by rw [← HM.out, HY.out, List.take_of_length_le (by rw [List.length_zip]; have := HKL.out; omega)])
            have d1 : ¬ (k : Int) < (p.keys.length : Int) := by omega
            obtain ⟨y0, y1, y2, y3, y4, -⟩ := I.out.2.2.2.1.c
            obtain ⟨z0, z1, z2, z3, z4, z5, z6, z7, z8, z9⟩ := I.out.2.2.1.c
            have Z : Hid (_ ∧ _) := hidI (sto_out (g := w.heap.size + 2) I.out.2.2.2.2.2.1 I.out.2.2.2.2.1 (by omega) (by omega))
            have ZB : Hid _ := hidI (I.out.2.2.1.set (.int .i64 y.kind) (.int .i64 y.n) (.string ⟨y.s.toArray⟩) (.slice b1 y.keys.length e1') (.slice b2 y.l.length e2'))
            clear hke
            go_wp2_with fail
            obtain ⟨q0, q1, q2, q3, q4, -⟩ := ZB.out.c
            refine bodyPost_ret (v := .agg #[.int .i64 y.kind, .int .i64 y.n, .string ⟨y.s.toArray⟩, .slice b1 y.keys.length e1', .slice b2 y.l.length e2']) ?_ rfl ?_
            · simp only [set5] at q0 q1 q2 q3 q4
              simp [results, Tryz.results16, go_sem, q0, q1, q2, q3, q4]
            · exact ⟨_, rfl, Z.out.1, by rw [HF.out]; exact Z.out.2⟩
    · have e1 : (v.kind == 5) = false := by rw [beq_eq_false_iff_ne]; exact hv5
      have KV : Hid (keptV v p = objT) := hidI (by rw [keptV, if_neg hv5])
      clear hv5
      have ST : Hid (RM w ok v p a1 a2 a3 a4 c1 c2 c3 c4 objT none none 0 0 _) := hidI RM.start
      obtain ⟨s0, s1, s2, s3, s4, -⟩ := ST.out.1.c
      obtain ⟨t0, t1, t2, t3, t4, -⟩ := ST.out.2.1.c
      go_enter Tryz.func16, Tryz.ntmps16
      go_upto_if 21 with fail
      go_cut [] (fun wc => R2 w ok E v p a1 a2 a3 a4 c1 c2 c3 c4 0 wc)
      case first =>
        go_wp2_with fail
        go_meet
        case rel => exact ⟨objT, none, none, 0, 0, by rw [List.take_zero, List.foldl_nil, KV.out], ST.out⟩
      case rest =>
        have I0 := hidI hcut
        clear s0 s1 s2 s3 s4 t0 t1 t2 t3 t4 ST
        obtain ⟨y, b1, b2, e1', e2', -, i1⟩ := hcut
        obtain ⟨t0, t1, t2, t3, t4, -⟩ := i1.2.1.c
        clear i1
        go_wp2_with fail
        go_loopg [50] p.keys.length (fun gk i wr => ∃ k : Nat, k ≤ p.keys.length ∧ gk = p.keys.length - k ∧ i = .int .i64 k ∧ R2 w ok E v p a1 a2 a3 a4 c1 c2 c3 c4 k wr)
        case atStart => exact ⟨0, Nat.zero_le _, rfl, rfl, I0.out⟩
        case round =>
          clear t0 t1 t2 t3 t4 I0
          obtain ⟨k, hk, hgk, rfl, y, b1, b2, e1', e2', hy, hI⟩ := hrel
          have GK := hidI hgk
          have I := hidI hI
          have HY := hidI hy
          clear hgk hI hy
          obtain ⟨s0, s1, s2, s3, s4, -⟩ := I.out.1.c
          obtain ⟨t0, t1, t2, t3, t4, -⟩ := I.out.2.1.c
          by_cases hlt : k < p.keys.length
          · have hlt' : k < p.l.length := by have := HKL.out; omega
            obtain ⟨kb, ko, rfl, j1, j2, jk, jl⟩ := Hp.out.key hlt
            obtain ⟨xb, xo, b5, d5, b6, d6, rfl, j3, j4, g0, g1, g2, g3, g4, g5⟩ := Hp.out.item hlt'
            have G0 := hidI g0
            have G1 := hidI g1
            have G2 := hidI g2
            have G3 := hidI g3
            have G4 := hidI g4
            have XI := hidI g5
            have w1 : (0 : Int) ≤ (k : Int) := by omega
            have w2 : (k : Int) < (p.l.length : Int) := by omega
            have w3 : (k : Int) < (p.keys.length : Int) := by omega
            replace jk := cell_bel I.out.2.2.2.2.1 jk
            replace g0 := cell_bel I.out.2.2.2.2.1 g0
            have OY : Hid (Ob y) := hidI (by rw [HY.out]; exact (r2_ob NV.out NP.out).1)
            have LY : Hid (y.l.length ≤ 240) := hidI (by rw [HY.out]; exact (r2_ob NV.out NP.out).2)
            by_cases hn : p.l[k].kind = 0
            · have e3 : (p.l[k].kind != 0) = false := by rw [hn]; rfl
              have FIN : Hid (R2 w ok E v p a1 a2 (some ⟨kb, ko, none⟩) (some ⟨xb, xo, none⟩) c1 c2 c3 c4 (k + 1) wr) := hidI ⟨y, b1, b2, e1', e2', by rw [zip_step hlt hlt', ← HY.out, stepN, if_pos hn], I.out⟩
              clear hn
              go_wp2_with fail
              go_roundg (p.keys.length - (k + 1))
              case measure => rw [GK.out]; omega
              case rel => exact ⟨k + 1, hlt, rfl, by go_num, FIN.out⟩
            · have e3 : (p.l[k].kind != 0) = true := by rw [bne_iff_ne]; exact hn
              have HN := hidI hn
              clear hn
              go_wp2_with fail
              refine (rmember_is _ (fun k => ok k ∧ k < w.heap.size) v _ p.keys[k] (by exact Hv.out.bel I.out.2.2.2.2.1)).mono ?_
              rintro e w4 ⟨r, rfl, hb4, hr⟩
              obtain ⟨q, hq⟩ : ∃ q, (memV v p.keys[k]).getD zeroT = q := ⟨_, rfl⟩
              rw [hq] at hr
              obtain ⟨mb, hmb⟩ : ∃ mb, (memV v p.keys[k]).isSome = mb := ⟨_, rfl⟩
              rw [hmb]
              have NQ : Hid (Nice q) := hidI (by rw [← hq]; exact nice_old NV.out _)
              obtain ⟨g3, g4, h3, h4, rfl⟩ := hr.form
              have hbb := bel_trans hb4 (bel_alloc w4 (.cells #[.int .i64 q.kind, .int .i64 q.n, .string ⟨q.s.toArray⟩, .slice g3 q.keys.length h3, .slice g4 q.l.length h4] 25))
              have K := hidI (I.out.bel hbb)
              have KQ : Hid (BoxIs (w4.alloc (.cells #[.int .i64 q.kind, .int .i64 q.n, .string ⟨q.s.toArray⟩, .slice g3 q.keys.length h3, .slice g4 q.l.length h4] 25)) w4.heap.size (.int .i64 q.kind) (.int .i64 q.n) (.string ⟨q.s.toArray⟩) (.slice g3 q.keys.length h3) (.slice g4 q.l.length h4) ∧ In (w4.alloc (.cells #[.int .i64 q.kind, .int .i64 q.n, .string ⟨q.s.toArray⟩, .slice g3 q.keys.length h3, .slice g4 q.l.length h4] 25)) (lowN ok w.heap.size (w.heap.size + 4)) q (.agg #[.int .i64 q.kind, .int .i64 q.n, .string ⟨q.s.toArray⟩, .slice g3 q.keys.length h3, .slice g4 q.l.length h4])) := hidI ⟨heap_alloc_new w4 _, (hr.bel (bel_alloc _ _)).weak lowN_low⟩
              have FIN : Hid (∀ z u, mergeF E q p.l[k] = z → u = withV y p.keys[k] z → ∀ (W : World) (g1 g2 : Option Addr) (h1 h2 : Nat), RM w ok v p a1 a2 (some ⟨kb, ko, none⟩) (some ⟨xb, xo, none⟩) c1 c2 c3 c4 y b1 b2 e1' e2' W → In W (lowN ok w.heap.size (w.heap.size + 4)) u (.agg #[.int .i64 u.kind, .int .i64 u.n, .string ⟨u.s.toArray⟩, .slice g1 u.keys.length h1, .slice g2 u.l.length h2]) → R2 w ok E v p a1 a2 (some ⟨kb, ko, none⟩) (some ⟨xb, xo, none⟩) c1 c2 c3 c4 (k + 1) (set5 W (w.heap.size + 3) (.int .i64 u.kind) (.int .i64 u.n) (.string ⟨u.s.toArray⟩) (.slice g1 u.keys.length h1) (.slice g2 u.l.length h2))) := hidI (by
                intro z u hz hu W g1 g2 h1 h2 hW hI
                exact ⟨u, g1, g2, h1, h2, by rw [zip_step hlt hlt', ← HY.out, stepN, if_neg HN.out, hq, hz, hu], hW.put hI⟩)
              clear hq hmb hr hb4 hbb s0 s1 s2 s3 s4 t0 t1 t2 t3 t4 jk g0
              go_upto_region 17 with fail
              refine wp_region_T (fun wS => RM w ok v p a1 a2 (some ⟨kb, ko, none⟩) (some ⟨xb, xo, none⟩) c1 c2 c3 c4 y b1 b2 e1' e2' wS ∧ BoxIs wS w4.heap.size (.int .i64 q.kind) (.int .i64 q.n) (.string ⟨q.s.toArray⟩) (.slice g3 q.keys.length h3) (.slice g4 q.l.length h4) ∧ In wS (lowN ok w.heap.size (w.heap.size + 4)) q (.agg #[.int .i64 q.kind, .int .i64 q.n, .string ⟨q.s.toArray⟩, .slice g3 q.keys.length h3, .slice g4 q.l.length h4])) [10] (by kernel_rfl) ⟨K.out.bel (bel_drewN _ 1), box_bel (bel_drewN _ 1) KQ.out.1, KQ.out.2.bel (bel_drewN _ 1)⟩ (fun hHeld => ?_)
              refine wpAnyT_take (i := 0) (v := ?_) [9, 10] (oi := { dst := some 68, op := Go.Op.load 25 (Go.Operand.tmp 5), type := 25, pos := "high.go:139", after := #[], guard := none }) rfl (by kernel_rfl) (by kernel_rfl) (by kernel_rfl) (by kernel_rfl) (fun _ _ _ h => h) (Or.inl ⟨by rfl, ?_⟩) hHeld ?_
              rotate_left
              · intro wS hSw
                obtain ⟨v0, v1, v2, v3, v4, -⟩ := hSw.1.2.1.c
                obtain ⟨y0, y1, y2, y3, y4, -⟩ := hSw.1.2.2.2.1.c
                obtain ⟨q0, q1, q2, q3, q4, -⟩ := hSw.2.1.c
                have i0 := cell_bel hSw.1.2.2.2.2.1 G0.out
                have i1 := cell_bel hSw.1.2.2.2.2.1 G1.out
                have i2 := cell_bel hSw.1.2.2.2.2.1 G2.out
                have i3 := cell_bel hSw.1.2.2.2.2.1 G3.out
                have i4 := cell_bel hSw.1.2.2.2.2.1 G4.out
                go_simp
                all_goals with_reducible rfl
              simp only [Act.put, List.setIfInBounds_toArray, List.set_cons_zero, List.set_cons_succ]
              refine wpAnyT_take (i := 1) (v := ?_) [9, 10] (oi := { dst := some 69, op := Go.Op.move (Go.Operand.tmp 11), type := 9, pos := "high.go:139", after := #[], guard := none }) rfl (by kernel_rfl) (by kernel_rfl) (by kernel_rfl) (by kernel_rfl) (fun _ _ _ h => h) (Or.inl ⟨by rfl, ?_⟩) hHeld ?_
              rotate_left
              · intro wS hSw
                go_simp
                all_goals with_reducible rfl
              simp only [Act.put, List.setIfInBounds_toArray, List.set_cons_zero, List.set_cons_succ]
              refine wpAnyT_take (i := 2) (v := ?_) [8, 9, 10] (oi := { dst := some 70, op := Go.Op.load 25 (Go.Operand.tmp 12), type := 25, pos := "high.go:139", after := #[], guard := none }) rfl (by kernel_rfl) (by kernel_rfl) (by kernel_rfl) (by kernel_rfl) (fun _ _ _ h => h) (Or.inl ⟨by rfl, ?_⟩) hHeld ?_
              rotate_left
              · intro wS hSw
                obtain ⟨v0, v1, v2, v3, v4, -⟩ := hSw.1.2.1.c
                obtain ⟨y0, y1, y2, y3, y4, -⟩ := hSw.1.2.2.2.1.c
                obtain ⟨q0, q1, q2, q3, q4, -⟩ := hSw.2.1.c
                have i0 := cell_bel hSw.1.2.2.2.2.1 G0.out
                have i1 := cell_bel hSw.1.2.2.2.2.1 G1.out
                have i2 := cell_bel hSw.1.2.2.2.2.1 G2.out
                have i3 := cell_bel hSw.1.2.2.2.2.1 G3.out
                have i4 := cell_bel hSw.1.2.2.2.2.1 G4.out
                go_simp
                all_goals with_reducible rfl
              simp only [Act.put, List.setIfInBounds_toArray, List.set_cons_zero, List.set_cons_succ]
              refine wpAnyT_take (i := 3) (v := ?_) [4, 6, 7, 8, 9, 10] (oi := { dst := some 71, op := Go.Op.fieldAddr 25 (Go.Operand.tmp 3) 4, type := 0, pos := "high.go:139", after := #[], guard := none }) rfl (by kernel_rfl) (by kernel_rfl) (by kernel_rfl) (by kernel_rfl) (fun _ _ _ h => h) (Or.inl ⟨by rfl, ?_⟩) hHeld ?_
              rotate_left
              · intro wS hSw
                go_simp
                all_goals with_reducible rfl
              simp only [Act.put, List.setIfInBounds_toArray, List.set_cons_zero, List.set_cons_succ]
              refine wpAnyT_take (i := 4) (v := ?_) [6, 7, 8, 9, 10] (oi := { dst := some 72, op := Go.Op.load 23 (Go.Operand.tmp 71), type := 23, pos := "high.go:139", after := #[{ on := 3, ground := Go.Ground.data }], guard := none }) rfl (by kernel_rfl) (by kernel_rfl) (by kernel_rfl) (by kernel_rfl) (fun _ _ _ h => h) (Or.inl ⟨by rfl, ?_⟩) hHeld ?_
              rotate_left
              · intro wS hSw
                obtain ⟨v0, v1, v2, v3, v4, -⟩ := hSw.1.2.1.c
                obtain ⟨y0, y1, y2, y3, y4, -⟩ := hSw.1.2.2.2.1.c
                obtain ⟨q0, q1, q2, q3, q4, -⟩ := hSw.2.1.c
                have i0 := cell_bel hSw.1.2.2.2.2.1 G0.out
                have i1 := cell_bel hSw.1.2.2.2.2.1 G1.out
                have i2 := cell_bel hSw.1.2.2.2.2.1 G2.out
                have i3 := cell_bel hSw.1.2.2.2.2.1 G3.out
                have i4 := cell_bel hSw.1.2.2.2.2.1 G4.out
                go_simp
                all_goals with_reducible rfl
              simp only [Act.put, List.setIfInBounds_toArray, List.set_cons_zero, List.set_cons_succ]
              refine wpAnyT_take (i := 5) (v := ?_) [6, 7, 8, 9, 10] (oi := { dst := some 73, op := Go.Op.move (Go.Operand.tmp 10), type := 3, pos := "high.go:139", after := #[], guard := none }) rfl (by kernel_rfl) (by kernel_rfl) (by kernel_rfl) (by kernel_rfl) (fun _ _ _ h => h) (Or.inl ⟨by rfl, ?_⟩) hHeld ?_
              rotate_left
              · intro wS hSw
                go_simp
                all_goals with_reducible rfl
              simp only [Act.put, List.setIfInBounds_toArray, List.set_cons_zero, List.set_cons_succ]
              refine wpAnyT_take (i := 6) (v := ?_) [7, 8, 9, 10] (oi := { dst := some 74, op := Go.Op.indexAddr 23 (Go.Operand.tmp 72) (Go.Operand.tmp 73), type := 0, pos := "high.go:139", after := #[{ on := 4, ground := Go.Ground.data }, { on := 5, ground := Go.Ground.data }], guard := none }) rfl (by kernel_rfl) (by kernel_rfl) (by kernel_rfl) (by kernel_rfl) (fun _ _ _ h => h) (Or.inl ⟨by rfl, ?_⟩) hHeld ?_
              rotate_left
              · intro wS hSw
                go_simp
                all_goals with_reducible rfl
              simp only [Act.put, List.setIfInBounds_toArray, List.set_cons_zero, List.set_cons_succ]
              refine wpAnyT_take (i := 7) (v := ?_) [8, 9, 10] (oi := { dst := some 75, op := Go.Op.load 25 (Go.Operand.tmp 74), type := 25, pos := "high.go:139", after := #[{ on := 6, ground := Go.Ground.data }], guard := none }) rfl (by kernel_rfl) (by kernel_rfl) (by kernel_rfl) (by kernel_rfl) (fun _ _ _ h => h) (Or.inl ⟨by rfl, ?_⟩) hHeld ?_
              rotate_left
              · intro wS hSw
                obtain ⟨v0, v1, v2, v3, v4, -⟩ := hSw.1.2.1.c
                obtain ⟨y0, y1, y2, y3, y4, -⟩ := hSw.1.2.2.2.1.c
                obtain ⟨q0, q1, q2, q3, q4, -⟩ := hSw.2.1.c
                have i0 := cell_bel hSw.1.2.2.2.2.1 G0.out
                have i1 := cell_bel hSw.1.2.2.2.2.1 G1.out
                have i2 := cell_bel hSw.1.2.2.2.2.1 G2.out
                have i3 := cell_bel hSw.1.2.2.2.2.1 G3.out
                have i4 := cell_bel hSw.1.2.2.2.2.1 G4.out
                go_simp
                all_goals with_reducible rfl
              simp only [Act.put, List.setIfInBounds_toArray, List.set_cons_zero, List.set_cons_succ]
              refine wpAnyT_ready (rs := [8]) (by kernel_rfl) (by simp) ?_
              refine AllReadyT.cons (i := 8) (o := { dst := some 76, op := Go.Op.call { callee := Go.Callee.value (Go.Operand.func 16), args := #[Go.Operand.tmp 70, Go.Operand.tmp 75], argTypes := #[25, 25] }, type := 25, pos := "high.go:139", after := #[{ on := 2, ground := Go.Ground.data }, { on := 7, ground := Go.Ground.data }], guard := none }) rfl (fun K hK => ?_) ?_
              · go_simp
                refine (IH.out _ (lowN ok w.heap.size (w.heap.size + 4)) q p.l[k] _ _ (by exact hHeld.2.2) (by exact (XI.out.bel hHeld.1.2.2.2.2.1).weak lowN_low) NQ.out (nice_mem NP.out (List.getElem_mem hlt')) (HD.out _ (List.getElem_mem hlt'))).mono ?_
                rintro e w8q ⟨r, rfl, hb, hr⟩
                obtain ⟨z, hz⟩ : ∃ z, mergeF E q p.l[k] = z := ⟨_, rfl⟩
                rw [hz] at hr
                have ZZ := hidI (hr.weak (lowN_up hHeld.1.2.2.2.2.2.2))
                have HZ := hidI hz
                refine hK.out _ _ (⟨hHeld.1.bel hb, box_bel hb hHeld.2.1, hHeld.2.2.bel hb⟩) (fun hHeld2 => ?_)
                clear hz hr hb
                clear hK K
                replace hHeld := hHeld2
                clear hHeld2
                try simp only [Act.put, List.setIfInBounds_toArray, List.set_cons_zero, List.set_cons_succ]
                refine wpAnyT_ready (rs := [9]) (by kernel_rfl) (by simp) ?_
                refine AllReadyT.cons (i := 9) (o := { dst := some 77, op := Go.Op.call { callee := Go.Callee.value (Go.Operand.func 28), args := #[Go.Operand.tmp 68, Go.Operand.tmp 69, Go.Operand.tmp 76], argTypes := #[25, 9, 25] }, type := 25, pos := "high.go:139", after := #[{ on := 0, ground := Go.Ground.data }, { on := 1, ground := Go.Ground.data }, { on := 8, ground := Go.Ground.data }, { on := 8, ground := Go.Ground.chain }], guard := none }) rfl (fun K hK => ?_) ?_
                · go_simp
                  refine (rwith_is _ (lowN ok w.heap.size (w.heap.size + 4)) y z _ _ p.keys[k] (by exact hHeld.1.2.2.2.2.2.1) (by exact ZZ.out) OY.out (by have := LY.out; omega) jl).mono ?_
                  rintro e w9q ⟨r2, rfl, hr2, hb⟩
                  obtain ⟨u, hu⟩ : ∃ u, withV y p.keys[k] z = u := ⟨_, rfl⟩
                  rw [hu] at hr2
                  obtain ⟨g1, g2, h1, h2, rfl⟩ := hr2.form
                  have U : Hid (In w9q (lowN ok w.heap.size (w.heap.size + 4)) u (.agg #[.int .i64 u.kind, .int .i64 u.n, .string ⟨u.s.toArray⟩, .slice g1 u.keys.length h1, .slice g2 u.l.length h2])) := hidI (hr2.weak (lowN_up hHeld.1.2.2.2.2.2.2))
                  have HU := hidI hu
                  refine hK.out _ _ (⟨hHeld.1.bel hb, box_bel hb hHeld.2.1, hHeld.2.2.bel hb⟩) (fun hHeld2 => ?_)
                  clear hu hr2 hb
                  clear hK K
                  replace hHeld := hHeld2
                  clear hHeld2
                  try simp only [Act.put, List.setIfInBounds_toArray, List.set_cons_zero, List.set_cons_succ]
                  obtain ⟨o0, o1, o2, o3, o4, f0, f1, f2, f3, f4⟩ := hHeld.1.2.2.2.1.c
                  have HE := hidI hHeld
                  clear hHeld
                  refine wpAnyT_last (i := 10) (o := { dst := none, op := Go.Op.store 25 (Go.Operand.tmp 5) (Go.Operand.tmp 77), type := 0, pos := "high.go:139", after := #[{ on := 9, ground := Go.Ground.data }, { on := 9, ground := Go.Ground.chain }, { on := 0, ground := Go.Ground.phase }, { on := 1, ground := Go.Ground.phase }, { on := 2, ground := Go.Ground.phase }, { on := 3, ground := Go.Ground.phase }, { on := 4, ground := Go.Ground.phase }, { on := 5, ground := Go.Ground.phase }, { on := 6, ground := Go.Ground.phase }, { on := 7, ground := Go.Ground.phase }, { on := 8, ground := Go.Ground.phase }, { on := 9, ground := Go.Ground.phase }], guard := none }) (by kernel_rfl) (by rfl) rfl (fun K hK => ?_)
                  go_simp
                  refine hK.out _ _ ?_
                  clear hK K
                  try simp only [Act.put, List.setIfInBounds_toArray, List.set_cons_zero, List.set_cons_succ]
                  refine wpAnyT_done (by kernel_rfl) ?_ _
                  go_wp2_with fail
                  go_roundg (p.keys.length - (k + 1))
                  case measure => rw [GK.out]; omega
                  case rel => exact ⟨k + 1, hlt, rfl, by go_num, FIN.out z u HZ.out HU.out.symm _ _ _ _ _ HE.out.1 U.out⟩
                exact AllReadyT.nil
              exact AllReadyT.nil
          · have hke : k = p.keys.length := by omega
            have HF : Hid (mergeF (E + 1) v p = y) := hidI (by rw [← HM.out, HY.out, List.take_of_length_le (by rw [List.length_zip]; have := HKL.out; omega)])
            have d1 : ¬ (k : Int) < (p.keys.length : Int) := by omega
            obtain ⟨y0, y1, y2, y3, y4, -⟩ := I.out.2.2.2.1.c
            obtain ⟨z0, z1, z2, z3, z4, z5, z6, z7, z8, z9⟩ := I.out.2.2.1.c
            have Z : Hid (_ ∧ _) := hidI (sto_out (g := w.heap.size + 2) I.out.2.2.2.2.2.1 I.out.2.2.2.2.1 (by omega) (by omega))
            have ZB : Hid _ := hidI (I.out.2.2.1.set (.int .i64 y.kind) (.int .i64 y.n) (.string ⟨y.s.toArray⟩) (.slice b1 y.keys.length e1') (.slice b2 y.l.length e2'))
            clear hke
            go_wp2_with fail
            obtain ⟨q0, q1, q2, q3, q4, -⟩ := ZB.out.c
            refine bodyPost_ret (v := .agg #[.int .i64 y.kind, .int .i64 y.n, .string ⟨y.s.toArray⟩, .slice b1 y.keys.length e1', .slice b2 y.l.length e2']) ?_ rfl ?_
            · simp only [set5] at q0 q1 q2 q3 q4
              simp [results, Tryz.results16, go_sem, q0, q1, q2, q3, q4]
            · exact ⟨_, rfl, Z.out.1, by rw [HF.out]; exact Z.out.2⟩
  · have e0 : (p.kind != 5) = true := by rw [bne_iff_ne]; exact hk
    have HM : Hid (mergeF (E + 1) v p = p) := hidI (by rw [mergeF, if_neg hk])
    clear hk
    have B3 : Hid (∀ o1 o2 o3, Below w.heap.size w (((w.alloc o1).alloc o2).alloc o3)) := fun o1 o2 o3 => bel_trans (bel_trans (bel_alloc _ _) (bel_alloc _ _)) (bel_alloc _ _)
    have K := hidI ((Hp.out.bel (B3.out (.cells #[.int .i64 v.kind, .int .i64 v.n, .string ⟨v.s.toArray⟩, .slice a1 v.keys.length c1, .slice a2 v.l.length c2] 25) (.cells #[.int .i64 p.kind, .int .i64 p.n, .string ⟨p.s.toArray⟩, .slice a3 p.keys.length c3, .slice a4 p.l.length c4] 25) (.cells #[.int .i64 p.kind, .int .i64 p.n, .string ⟨p.s.toArray⟩, .slice a3 p.keys.length c3, .slice a4 p.l.length c4] 25))).weak low_out)
    go_enter Tryz.func16, Tryz.ntmps16
    go_wp2_with fail
    refine bodyPost_ret (v := .agg #[.int .i64 p.kind, .int .i64 p.n, .string ⟨p.s.toArray⟩, .slice a3 p.keys.length c3, .slice a4 p.l.length c4]) ?_ rfl ?_
    · simp [results, Tryz.results16, go_sem]
    · exact ⟨_, rfl, B3.out _ _ _, by rw [HM.out]; exact K.out⟩
theorem rmerged_is (E : Nat) : RMgC E := by
  induction E with
  | zero => intro w ok v p vv pv _ _ _ _ h; exact h.elim
  | succ E ih => exact rmerged_succ E ih
end Go.Proofs.YtfbddgpekbhpfacGreatDoor
