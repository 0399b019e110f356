/- What IsClean of package stairwellref answers: what Clean answers. -/
import Derived.Test.YtfbddgpekbhpfacGreatDoorGMc
import Derived.Test.YtfbddgpekbhpfacGreatDoorGFr
import Derived.Test.YtfbddgpekbhpfacGreatDoorGFw
import Derived.Test.YtfbddgpekbhpfacGreatDoorTp
import Derived.Test.YtfbddgpekbhpfacGreatDoorXa
import Derived.Test.YtfbddgpekbhpfacGreatDoorGMd
/- What MemberOf of package stairwellref does. -/
set_option linter.unusedSimpArgs false
set_option linter.unusedVariables false
namespace Go.Proofs.YtfbddgpekbhpfacGreatDoor
open Go.RowKit

theorem idx_drop {key : List UInt8} {xs : List (List UInt8)} {k : Nat} (h : k < xs.length) (hne : xs[k] ≠ key) : (idxL key (xs.drop k)).map (· + k) = (idxL key (xs.drop (k + 1))).map (· + (k + 1)) := by
  rw [List.drop_eq_getElem_cons h, idxL, if_neg hne]
  cases idxL key (xs.drop (k + 1)) with
  | none => rfl
  | some i => simp; omega

set_option maxRecDepth 100000 in
set_option maxHeartbeats 40000000 in
theorem rmember_is (w : World) (ok : Nat → Prop) (t : V) (v : Value) (key : List UInt8) (h : In w ok t v) :
    Calls Tryz.prog 27 #[v, str key] w fun e w' => ∃ x, e = .returned (.tuple #[x, .bool (memV t key).isSome]) ∧ Below w.heap.size w w' ∧ In w' ok ((memV t key).getD zeroT) x := by
  have H := hidI h
  obtain ⟨l1, l2, l3⟩ := h.lens
  obtain ⟨a1, a2, c1, c2, rfl⟩ := h.form
  clear h
  unfold str
  have B2 : Hid (∀ o1 o2, Below w.heap.size w ((w.alloc o1).alloc o2)) := fun o1 o2 => bel_trans (bel_alloc _ _) (bel_alloc _ _)
  by_cases hk : t.kind = 5
  · have e0 : (t.kind != 5) = false := by rw [hk]; rfl
    by_cases hl : t.keys.length = t.l.length
    · have e1 : ((t.keys.length : Int) != (t.l.length : Int)) = false := by simp [hl]
      have HM : Hid (memV t key = (idxL key t.keys).bind fun i => t.l[i]?) := hidI (by simp [memV, findV, pairedV, hk, hl])
      have HL := hidI hl
      clear hk hl
      go_enter Tryz.func27, Tryz.ntmps27
      go_wp2_with fail
      go_loop [23] (fun i => ∃ k : Nat, k ≤ t.keys.length ∧ i = .int .i64 k ∧ Hid (idxL key t.keys = (idxL key (t.keys.drop k)).map (· + k))) (fun i => t.keys.length - (intOf i).toNat)
      case atStart => exact ⟨0, Nat.zero_le _, rfl, hidI (by simp)⟩
      case round =>
        obtain ⟨k, hk, rfl, HI⟩ := hrel
        by_cases hlt : k < t.keys.length
        · have hlt' : k < t.l.length := by have := HL.out; omega
          obtain ⟨kb, ko, rfl, j1, j2, jk, jl⟩ := H.out.key hlt
          obtain ⟨xb, xo, b5, d5, b6, d6, rfl, j3, j4, g0, g1, g2, g3, g4, g5⟩ := H.out.item hlt'
          have w1 : (0 : Int) ≤ (k : Int) := by omega
          have w2 : (k : Int) < (t.keys.length : Int) := by omega
          have w3 : (k : Int) < (t.l.length : Int) := by omega
          have hbb := B2.out (.cells #[.int .i64 t.kind, .int .i64 t.n, .string ⟨t.s.toArray⟩, .slice (some ⟨kb, ko, none⟩) t.keys.length c1, .slice (some ⟨xb, xo, none⟩) t.l.length c2] 25) (.cells #[.int .i64 0, .int .i64 0, .string ⟨#[]⟩, .slice none 0 0, .slice none 0 0] 25)
          replace jk := cell_bel hbb jk
          replace g0 := cell_bel hbb g0
          replace g1 := cell_bel hbb g1
          replace g2 := cell_bel hbb g2
          replace g3 := cell_bel hbb g3
          replace g4 := cell_bel hbb g4
          have G5 := hidI g5
          clear g5 hbb
          by_cases he : t.keys[k] = key
          · have e3 : (t.keys[k] == key) = true := by rw [beq_iff_eq]; exact he
            have HX : Hid (memV t key = some t.l[k]) := hidI (by
              rw [HM.out, HI.out, List.drop_eq_getElem_cons hlt, idxL, if_pos he]
              simp [List.getElem?_eq_getElem hlt'])
            clear he
            have BX := hidI (G5.out.bel (B2.out (.cells #[.int .i64 t.kind, .int .i64 t.n, .string ⟨t.s.toArray⟩, .slice (some ⟨kb, ko, none⟩) t.keys.length c1, .slice (some ⟨xb, xo, none⟩) t.l.length c2] 25) (.cells #[.int .i64 t.l[k].kind, .int .i64 t.l[k].n, .string ⟨t.l[k].s.toArray⟩, .slice b5 t.l[k].keys.length d5, .slice b6 t.l[k].l.length d6] 25)))
            go_wp2_with fail
            refine bodyPost_ret (v := .tuple #[.agg #[.int .i64 t.l[k].kind, .int .i64 t.l[k].n, .string ⟨t.l[k].s.toArray⟩, .slice b5 t.l[k].keys.length d5, .slice b6 t.l[k].l.length d6], .bool true]) ?_ rfl ?_
            · simp [results, Tryz.results27, go_sem]
            · exact ⟨_, by rw [HX.out]; rfl, B2.out _ _, by rw [HX.out]; exact BX.out⟩
          · have e3 : (t.keys[k] == key) = false := by rw [beq_eq_false_iff_ne]; exact he
            have HN : Hid (idxL key t.keys = (idxL key (t.keys.drop (k + 1))).map (· + (k + 1))) := hidI (by rw [HI.out, idx_drop hlt he])
            clear he
            go_wp2_with fail
            go_round
            case rel => exact ⟨k + 1, by omega, by go_num, HN⟩
            case measure => simp [intOf]; omega
        · have l1 : t.keys.drop k = [] := List.drop_eq_nil_of_le (by omega)
          have d1 : ¬ (k : Int) < (t.keys.length : Int) := by omega
          have HM2 : Hid (memV t key = none) := hidI (by rw [HM.out, HI.out, l1]; rfl)
          clear HM l1
          have HM := HM2
          go_wp2_with fail
          refine bodyPost_ret (v := .tuple #[.agg #[.int .i64 0, .int .i64 0, .string ⟨#[]⟩, .slice none 0 0, .slice none 0 0], .bool false]) ?_ rfl ?_
          · simp [results, Tryz.results27, go_sem]
          · exact ⟨_, by rw [HM.out]; rfl, B2.out _ _, by rw [HM.out]; exact in_zero _ _⟩
    · have e1 : ((t.keys.length : Int) != (t.l.length : Int)) = true := by rw [bne_iff_ne]; omega
      have HM : Hid (memV t key = none) := hidI (by simp [memV, findV, pairedV, hl])
      clear hk hl
      go_enter Tryz.func27, Tryz.ntmps27
      go_wp2_with fail
      refine bodyPost_ret (v := .tuple #[.agg #[.int .i64 0, .int .i64 0, .string ⟨#[]⟩, .slice none 0 0, .slice none 0 0], .bool false]) ?_ rfl ?_
      · simp [results, Tryz.results27, go_sem]
      · exact ⟨_, by rw [HM.out]; rfl, B2.out _ _, by rw [HM.out]; exact in_zero _ _⟩
  · have e0 : (t.kind != 5) = true := by rw [bne_iff_ne]; exact hk
    have HM : Hid (memV t key = none) := hidI (by simp [memV, findV, pairedV, hk])
    clear hk
    go_enter Tryz.func27, Tryz.ntmps27
    go_wp2_with fail
    refine bodyPost_ret (v := .tuple #[.agg #[.int .i64 0, .int .i64 0, .string ⟨#[]⟩, .slice none 0 0, .slice none 0 0], .bool false]) ?_ rfl ?_
    · simp [results, Tryz.results27, go_sem]
    · exact ⟨_, by rw [HM.out]; rfl, B2.out _ _, by rw [HM.out]; exact in_zero _ _⟩
end Go.Proofs.YtfbddgpekbhpfacGreatDoor

/- What merged of package stairwellref does. -/
set_option linter.unusedSimpArgs false
set_option linter.unusedVariables false
namespace Go.Proofs.YtfbddgpekbhpfacGreatDoor
open Go.RowKit

/- Both values, the result's box, and the object that is being made. -/
def RM (w : World) (ok : Nat → Prop) (v p : V) (a1 a2 a3 a4 : Option Addr) (c1 c2 c3 c4 : Nat) (y : V) (b1 b2 : Option Addr) (e1 e2 : Nat) (W : World) : Prop :=
  BoxIs W w.heap.size (.int .i64 v.kind) (.int .i64 v.n) (.string ⟨v.s.toArray⟩) (.slice a1 v.keys.length c1) (.slice a2 v.l.length c2) ∧ BoxIs W (w.heap.size + 1) (.int .i64 p.kind) (.int .i64 p.n) (.string ⟨p.s.toArray⟩) (.slice a3 p.keys.length c3) (.slice a4 p.l.length c4) ∧ BoxIs W (w.heap.size + 2) (.int .i64 0) (.int .i64 0) (.string ⟨#[]⟩) (.slice none 0 0) (.slice none 0 0) ∧ BoxIs W (w.heap.size + 3) (.int .i64 y.kind) (.int .i64 y.n) (.string ⟨y.s.toArray⟩) (.slice b1 y.keys.length e1) (.slice b2 y.l.length e2) ∧ Below w.heap.size w W ∧ In W (lowN ok w.heap.size (w.heap.size + 4)) y (.agg #[.int .i64 y.kind, .int .i64 y.n, .string ⟨y.s.toArray⟩, .slice b1 y.keys.length e1, .slice b2 y.l.length e2]) ∧ w.heap.size + 4 ≤ W.heap.size
theorem RM.bel {w W W' : World} {ok : Nat → Prop} {v p y : V} {a1 a2 a3 a4 : Option Addr} {c1 c2 c3 c4 : Nat} {b1 b2 : Option Addr} {e1 e2 : Nat} (h : RM w ok v p a1 a2 a3 a4 c1 c2 c3 c4 y b1 b2 e1 e2 W) (hb : Below W.heap.size W W') : RM w ok v p a1 a2 a3 a4 c1 c2 c3 c4 y b1 b2 e1 e2 W' :=
  ⟨box_bel hb h.1, box_bel hb h.2.1, box_bel hb h.2.2.1, box_bel hb h.2.2.2.1, bel_trans h.2.2.2.2.1 hb, h.2.2.2.2.2.1.bel hb, Nat.le_trans h.2.2.2.2.2.2 hb.size⟩
theorem RM.put {w W : World} {ok : Nat → Prop} {v p y u : V} {a1 a2 a3 a4 : Option Addr} {c1 c2 c3 c4 : Nat} {b1 b2 : Option Addr} {e1 e2 : Nat} {g1 g2 : Option Addr} {h1 h2 : Nat} (h : RM w ok v p a1 a2 a3 a4 c1 c2 c3 c4 y b1 b2 e1 e2 W) (hu : In W (lowN ok w.heap.size (w.heap.size + 4)) u (.agg #[.int .i64 u.kind, .int .i64 u.n, .string ⟨u.s.toArray⟩, .slice g1 u.keys.length h1, .slice g2 u.l.length h2])) : RM w ok v p a1 a2 a3 a4 c1 c2 c3 c4 u g1 g2 h1 h2 (set5 W (w.heap.size + 3) (.int .i64 u.kind) (.int .i64 u.n) (.string ⟨u.s.toArray⟩) (.slice g1 u.keys.length h1) (.slice g2 u.l.length h2)) := by
  have gs := set5_gb W (w.heap.size + 3) (.int .i64 u.kind) (.int .i64 u.n) (.string ⟨u.s.toArray⟩) (.slice g1 u.keys.length h1) (.slice g2 u.l.length h2)
  refine ⟨h.1.grown gs (by simp), h.2.1.grown gs (by simp), h.2.2.1.grown gs (by simp), h.2.2.2.1.set _ _ _ _ _, bel_set5 h.2.2.2.2.1 (by omega) _ _ _ _ _, hu.box (by omega) (by omega) _ _ _ _ _, ?_⟩
  exact Nat.le_trans h.2.2.2.2.2.2 gs.size
theorem RM.start {w : World} {ok : Nat → Prop} {v p : V} {a1 a2 a3 a4 : Option Addr} {c1 c2 c3 c4 : Nat} : RM w ok v p a1 a2 a3 a4 c1 c2 c3 c4 objT none none 0 0 ((((w.alloc (.cells #[.int .i64 v.kind, .int .i64 v.n, .string ⟨v.s.toArray⟩, .slice a1 v.keys.length c1, .slice a2 v.l.length c2] 25)).alloc (.cells #[.int .i64 p.kind, .int .i64 p.n, .string ⟨p.s.toArray⟩, .slice a3 p.keys.length c3, .slice a4 p.l.length c4] 25)).alloc (.cells #[.int .i64 0, .int .i64 0, .string ⟨#[]⟩, .slice none 0 0, .slice none 0 0] 25)).alloc (.cells #[.int .i64 5, .int .i64 0, .string ⟨#[]⟩, .slice none 0 0, .slice none 0 0] 25)) :=
  ⟨box_bel (bel_alloc _ _) (h3a w _ _ _), box_bel (bel_alloc _ _) (h3b w _ _ _), box_bel (bel_alloc _ _) (h3c w _ _ _), h4dd w _ _ _ _, bel_trans (bel_trans (bel_trans (bel_alloc _ _) (bel_alloc _ _)) (bel_alloc _ _)) (bel_alloc _ _), in_leaf _ _ 5 0 (by unfold I64; omega) (by unfold I64; omega), by simp⟩
def RMgC (E : Nat) : Prop := ∀ (w : World) (ok : Nat → Prop) (v p : V) (vv pv : Value), In w ok v vv → In w ok p pv → Nice v → Nice p → Dep E p →
  Calls Tryz.prog 16 #[vv, pv] w fun e w' => ∃ r, e = .returned r ∧ Below w.heap.size w w' ∧ In w' (okN ok w.heap.size) (mergeF E v p) r
def R1 (w : World) (ok : Nat → Prop) (v p : V) (a1 a2 a3 a4 : Option Addr) (c1 c2 c3 c4 : Nat) (k : Nat) (wr : World) : Prop := ∃ y b1 b2 e1 e2, y = ((v.keys.zip v.l).take k).foldl (stepK p) objT ∧ RM w ok v p a1 a2 a3 a4 c1 c2 c3 c4 y b1 b2 e1 e2 wr
def R2 (w : World) (ok : Nat → Prop) (E : Nat) (v p : V) (a1 a2 a3 a4 : Option Addr) (c1 c2 c3 c4 : Nat) (k : Nat) (wr : World) : Prop := ∃ y b1 b2 e1 e2, y = ((p.keys.zip p.l).take k).foldl (stepN (mergeF E) v) (keptV v p) ∧ RM w ok v p a1 a2 a3 a4 c1 c2 c3 c4 y b1 b2 e1 e2 wr
theorem r1_ob {v p : V} {k : Nat} (hv : Nice v) : Ob (((v.keys.zip v.l).take k).foldl (stepK p) objT) ∧ (((v.keys.zip v.l).take k).foldl (stepK p) objT).l.length ≤ 120 := by
  refine ⟨fold_ob (stepK_ob p) _ _ ob_objT, ?_⟩
  have h1 := foldK_len p ((v.keys.zip v.l).take k) objT
  have h2 : ((v.keys.zip v.l).take k).length ≤ v.l.length := by simp; omega
  have h3 := nice_len hv
  have h4 : objT.l.length = 0 := rfl
  omega
theorem kept_len {v p : V} (hv : Nice v) : (keptV v p).l.length ≤ 120 := by
  unfold keptV
  split
  · have h1 := foldK_len p (v.keys.zip v.l) objT
    have h2 : (v.keys.zip v.l).length ≤ v.l.length := by simp; omega
    have h3 := nice_len hv
    have h4 : objT.l.length = 0 := rfl
    omega
  · simp [objT]
theorem r2_ob {E : Nat} {v p : V} {k : Nat} (hv : Nice v) (hp : Nice p) : Ob (((p.keys.zip p.l).take k).foldl (stepN (mergeF E) v) (keptV v p)) ∧ (((p.keys.zip p.l).take k).foldl (stepN (mergeF E) v) (keptV v p)).l.length ≤ 240 := by
  refine ⟨fold_ob (stepN_ob _ _) _ _ (kept_ob v p), ?_⟩
  have h1 := foldN_len (mergeF E) v ((p.keys.zip p.l).take k) (keptV v p)
  have h2 : ((p.keys.zip p.l).take k).length ≤ p.l.length := by simp; omega
  have h3 := nice_len hp
  have h4 := kept_len (p := p) hv
  omega
theorem mem_kind {v : V} {k : List UInt8} (h : v.kind ≠ 5) : memV v k = none := by simp [memV, findV, pairedV, h]
theorem nice_old {v : V} (h : Nice v) (k : List UInt8) : Nice ((memV v k).getD zeroT) := by
  cases hm : memV v k with
  | none => exact nice_zero
  | some x => exact nice_mem h (mem_in hm)

attribute [local go_sem ↓] Go.wp_at_zero Go.wp_at_succ
set_option maxRecDepth 100000 in
set_option maxHeartbeats 8000000 in
theorem rmerged_succ (E : Nat) (ih : RMgC E) : RMgC (E + 1) := by
  intro w ok v p vv pv h hp nv np hd
  have Hv := hidI h.low
  have Hp := hidI hp.low
  have NV := hidI nv
  have NP := hidI np
  have HD := hidI hd
  have IH := hidI ih
  obtain ⟨l1, l2, l3⟩ := h.lens
  obtain ⟨l4, l5, l6⟩ := hp.lens
  obtain ⟨a1, a2, c1, c2, rfl⟩ := h.form
  obtain ⟨a3, a4, c3, c4, rfl⟩ := hp.form
  clear h hp ih nv np hd
  by_cases hk : p.kind = 5
  · have e0 : (p.kind != 5) = false := by rw [hk]; rfl
    have OP : Hid (Ob p) := hidI (nice_ob NP.out hk)
    have HM : Hid ((p.keys.zip p.l).foldl (stepN (mergeF E) v) (keptV v p) = mergeF (E + 1) v p) := hidI (rmerge_eq OP.out (nice_ob NV.out))
    have HKL : Hid (p.keys.length = p.l.length) := hidI OP.out.2.2.2.1
    have HK := hidI hk
    clear hk
    by_cases hv5 : v.kind = 5
    · have e1 : (v.kind == 5) = true := by rw [hv5]; rfl
      have OV : Hid (Ob v) := hidI (nice_ob NV.out hv5)
      have KV : Hid (keptV v p = (v.keys.zip v.l).foldl (stepK p) objT) := hidI (by rw [keptV, if_pos hv5])
      have HVL : Hid (v.keys.length = v.l.length) := hidI OV.out.2.2.2.1
      clear hv5
      have ST : Hid (RM w ok v p a1 a2 a3 a4 c1 c2 c3 c4 objT none none 0 0 _) := hidI RM.start
      obtain ⟨s0, s1, s2, s3, s4, -⟩ := ST.out.1.c
      obtain ⟨t0, t1, t2, t3, t4, -⟩ := ST.out.2.1.c
      go_enter Tryz.func16, Tryz.ntmps16
      go_upto_if 21 with fail
      go_cut [] (fun wc => R2 w ok E v p a1 a2 a3 a4 c1 c2 c3 c4 0 wc)
      case first =>
        go_wp2_with fail
        go_loopg [25] v.keys.length (fun gk i wr => ∃ k : Nat, k ≤ v.keys.length ∧ gk = v.keys.length - k ∧ i = .int .i64 k ∧ R1 w ok v p a1 a2 a3 a4 c1 c2 c3 c4 k wr)
        case atStart => exact ⟨0, Nat.zero_le _, rfl, rfl, objT, none, none, 0, 0, rfl, ST.out⟩
        case round =>
          obtain ⟨k, hk, hgk, rfl, y, b1, b2, e1', e2', hy, hI⟩ := hrel
          have GK := hidI hgk
          have I := hidI hI
          have HY := hidI hy
          clear hgk hI hy s0 s1 s2 s3 s4 t0 t1 t2 t3 t4 ST
          obtain ⟨s0, s1, s2, s3, s4, -⟩ := I.out.1.c
          obtain ⟨t0, t1, t2, t3, t4, -⟩ := I.out.2.1.c
          by_cases hlt : k < v.keys.length
          · have hlt' : k < v.l.length := by have := HVL.out; omega
            obtain ⟨kb, ko, rfl, j1, j2, jk, jl⟩ := Hv.out.key hlt
            obtain ⟨xb, xo, b5, d5, b6, d6, rfl, j3, j4, g0, g1, g2, g3, g4, g5⟩ := Hv.out.item hlt'
            have G0 := hidI g0
            have G1 := hidI g1
            have G2 := hidI g2
            have G3 := hidI g3
            have G4 := hidI g4
            have XI := hidI g5
            have w1 : (0 : Int) ≤ (k : Int) := by omega
            have w2 : (k : Int) < (v.l.length : Int) := by omega
            have w3 : (k : Int) < (v.keys.length : Int) := by omega
            replace jk := cell_bel I.out.2.2.2.2.1 jk
            have OY : Hid (Ob y) := hidI (by rw [HY.out]; exact (r1_ob NV.out).1)
            have LY : Hid (y.l.length ≤ 120) := hidI (by rw [HY.out]; exact (r1_ob NV.out).2)
            go_wp2_with fail
            refine (rmember_is _ (fun k => ok k ∧ k < w.heap.size) p _ v.keys[k] (by exact Hp.out.bel I.out.2.2.2.2.1)).mono ?_
            rintro e w4 ⟨r, rfl, hb4, hr⟩
            obtain ⟨q, hq⟩ : ∃ q, (memV p v.keys[k]).getD zeroT = q := ⟨_, rfl⟩
            rw [hq] at hr
            obtain ⟨g3, g4, h3, h4, rfl⟩ := hr.form
            have hbb := bel_trans hb4 (bel_alloc w4 (.cells #[.int .i64 q.kind, .int .i64 q.n, .string ⟨q.s.toArray⟩, .slice g3 q.keys.length h3, .slice g4 q.l.length h4] 25))
            have K := hidI (I.out.bel hbb)
            clear hq hr hb4 hbb s0 s1 s2 s3 s4 t0 t1 t2 t3 t4 jk
            cases hm : (memV p v.keys[k]).isSome with
            | true =>
              have FIN : Hid (R1 w ok v p (some ⟨kb, ko, none⟩) (some ⟨xb, xo, none⟩) a3 a4 c1 c2 c3 c4 (k + 1) (w4.alloc (.cells #[.int .i64 q.kind, .int .i64 q.n, .string ⟨q.s.toArray⟩, .slice g3 q.keys.length h3, .slice g4 q.l.length h4] 25))) := hidI ⟨y, b1, b2, e1', e2', by rw [zip_step hlt hlt', ← HY.out, stepK, if_pos hm], K.out⟩
              clear hm
              obtain ⟨s0, s1, s2, s3, s4, -⟩ := K.out.1.c
              obtain ⟨t0, t1, t2, t3, t4, -⟩ := K.out.2.1.c
              go_wp2_with fail
              go_roundg (v.keys.length - (k + 1))
              case measure => rw [GK.out]; omega
              case rel => exact ⟨k + 1, hlt, rfl, by go_num, FIN.out⟩
            | false =>
              have FIN : Hid (∀ u, u = withV y v.keys[k] v.l[k] → ∀ (W : World) (g1 g2 : Option Addr) (h1 h2 : Nat), RM w ok v p (some ⟨kb, ko, none⟩) (some ⟨xb, xo, none⟩) a3 a4 c1 c2 c3 c4 y b1 b2 e1' e2' W → In W (lowN ok w.heap.size (w.heap.size + 4)) u (.agg #[.int .i64 u.kind, .int .i64 u.n, .string ⟨u.s.toArray⟩, .slice g1 u.keys.length h1, .slice g2 u.l.length h2]) → R1 w ok v p (some ⟨kb, ko, none⟩) (some ⟨xb, xo, none⟩) a3 a4 c1 c2 c3 c4 (k + 1) (set5 W (w.heap.size + 3) (.int .i64 u.kind) (.int .i64 u.n) (.string ⟨u.s.toArray⟩) (.slice g1 u.keys.length h1) (.slice g2 u.l.length h2))) := hidI (by
                intro u hu W g1 g2 h1 h2 hW hI
                exact ⟨u, g1, g2, h1, h2, by rw [zip_step hlt hlt', ← HY.out, stepK, if_neg (by rw [hm]; simp), hu], hW.put hI⟩)
              clear hm
              go_upto_region 10 with fail
              refine wp_region_T (fun wS => RM w ok v p (some ⟨kb, ko, none⟩) (some ⟨xb, xo, none⟩) a3 a4 c1 c2 c3 c4 y b1 b2 e1' e2' wS) [8] (by kernel_rfl) (K.out.bel (bel_drewN _ 1)) (fun hHeld => ?_)
              refine wpAnyT_take (i := 0) (v := ?_) [7, 8] (oi := { dst := some 38, op := Go.Op.load 25 (Go.Operand.tmp 5), type := 25, pos := "high.go:132", after := #[], guard := none }) rfl (by kernel_rfl) (by kernel_rfl) (by kernel_rfl) (by kernel_rfl) (fun _ _ _ h => h) (Or.inl ⟨by rfl, ?_⟩) hHeld ?_
              rotate_left
              · intro wS hSw
                obtain ⟨v0, v1, v2, v3, v4, -⟩ := hSw.1.c
                obtain ⟨y0, y1, y2, y3, y4, -⟩ := hSw.2.2.2.1.c
                have i0 := cell_bel hSw.2.2.2.2.1 G0.out
                have i1 := cell_bel hSw.2.2.2.2.1 G1.out
                have i2 := cell_bel hSw.2.2.2.2.1 G2.out
                have i3 := cell_bel hSw.2.2.2.2.1 G3.out
                have i4 := cell_bel hSw.2.2.2.2.1 G4.out
                go_simp
                all_goals with_reducible rfl
              simp only [Act.put, List.setIfInBounds_toArray, List.set_cons_zero, List.set_cons_succ]
              refine wpAnyT_take (i := 1) (v := ?_) [7, 8] (oi := { dst := some 39, op := Go.Op.move (Go.Operand.tmp 7), type := 9, pos := "high.go:132", after := #[], guard := none }) rfl (by kernel_rfl) (by kernel_rfl) (by kernel_rfl) (by kernel_rfl) (fun _ _ _ h => h) (Or.inl ⟨by rfl, ?_⟩) hHeld ?_
              rotate_left
              · intro wS hSw
                go_simp
                all_goals with_reducible rfl
              simp only [Act.put, List.setIfInBounds_toArray, List.set_cons_zero, List.set_cons_succ]
              refine wpAnyT_take (i := 2) (v := ?_) [3, 5, 6, 7, 8] (oi := { dst := some 40, op := Go.Op.fieldAddr 25 (Go.Operand.tmp 2) 4, type := 0, pos := "high.go:132", after := #[], guard := none }) rfl (by kernel_rfl) (by kernel_rfl) (by kernel_rfl) (by kernel_rfl) (fun _ _ _ h => h) (Or.inl ⟨by rfl, ?_⟩) hHeld ?_
              rotate_left
              · intro wS hSw
                go_simp
                all_goals with_reducible rfl
              simp only [Act.put, List.setIfInBounds_toArray, List.set_cons_zero, List.set_cons_succ]
              refine wpAnyT_take (i := 3) (v := ?_) [5, 6, 7, 8] (oi := { dst := some 41, op := Go.Op.load 23 (Go.Operand.tmp 40), type := 23, pos := "high.go:132", after := #[{ on := 2, ground := Go.Ground.data }], guard := none }) rfl (by kernel_rfl) (by kernel_rfl) (by kernel_rfl) (by kernel_rfl) (fun _ _ _ h => h) (Or.inl ⟨by rfl, ?_⟩) hHeld ?_
              rotate_left
              · intro wS hSw
                obtain ⟨v0, v1, v2, v3, v4, -⟩ := hSw.1.c
                obtain ⟨y0, y1, y2, y3, y4, -⟩ := hSw.2.2.2.1.c
                have i0 := cell_bel hSw.2.2.2.2.1 G0.out
                have i1 := cell_bel hSw.2.2.2.2.1 G1.out
                have i2 := cell_bel hSw.2.2.2.2.1 G2.out
                have i3 := cell_bel hSw.2.2.2.2.1 G3.out
                have i4 := cell_bel hSw.2.2.2.2.1 G4.out
                go_simp
                all_goals with_reducible rfl
              simp only [Act.put, List.setIfInBounds_toArray, List.set_cons_zero, List.set_cons_succ]
              refine wpAnyT_take (i := 4) (v := ?_) [5, 6, 7, 8] (oi := { dst := some 42, op := Go.Op.move (Go.Operand.tmp 6), type := 3, pos := "high.go:132", after := #[], guard := none }) rfl (by kernel_rfl) (by kernel_rfl) (by kernel_rfl) (by kernel_rfl) (fun _ _ _ h => h) (Or.inl ⟨by rfl, ?_⟩) hHeld ?_
              rotate_left
              · intro wS hSw
                go_simp
                all_goals with_reducible rfl
              simp only [Act.put, List.setIfInBounds_toArray, List.set_cons_zero, List.set_cons_succ]
              refine wpAnyT_take (i := 5) (v := ?_) [6, 7, 8] (oi := { dst := some 43, op := Go.Op.indexAddr 23 (Go.Operand.tmp 41) (Go.Operand.tmp 42), type := 0, pos := "high.go:132", after := #[{ on := 3, ground := Go.Ground.data }, { on := 4, ground := Go.Ground.data }], guard := none }) rfl (by kernel_rfl) (by kernel_rfl) (by kernel_rfl) (by kernel_rfl) (fun _ _ _ h => h) (Or.inl ⟨by rfl, ?_⟩) hHeld ?_
              rotate_left
              · intro wS hSw
                go_simp
                all_goals with_reducible rfl
              simp only [Act.put, List.setIfInBounds_toArray, List.set_cons_zero, List.set_cons_succ]
              refine wpAnyT_take (i := 6) (v := ?_) [7, 8] (oi := { dst := some 44, op := Go.Op.load 25 (Go.Operand.tmp 43), type := 25, pos := "high.go:132", after := #[{ on := 5, ground := Go.Ground.data }], guard := none }) rfl (by kernel_rfl) (by kernel_rfl) (by kernel_rfl) (by kernel_rfl) (fun _ _ _ h => h) (Or.inl ⟨by rfl, ?_⟩) hHeld ?_
              rotate_left
              · intro wS hSw
                obtain ⟨v0, v1, v2, v3, v4, -⟩ := hSw.1.c
                obtain ⟨y0, y1, y2, y3, y4, -⟩ := hSw.2.2.2.1.c
                have i0 := cell_bel hSw.2.2.2.2.1 G0.out
                have i1 := cell_bel hSw.2.2.2.2.1 G1.out
                have i2 := cell_bel hSw.2.2.2.2.1 G2.out
                have i3 := cell_bel hSw.2.2.2.2.1 G3.out
                have i4 := cell_bel hSw.2.2.2.2.1 G4.out
                go_simp
                all_goals with_reducible rfl
              simp only [Act.put, List.setIfInBounds_toArray, List.set_cons_zero, List.set_cons_succ]
              refine wpAnyT_ready (rs := [7]) (by kernel_rfl) (by simp) ?_
              refine AllReadyT.cons (i := 7) (o := { dst := some 45, op := Go.Op.call { callee := Go.Callee.value (Go.Operand.func 28), args := #[Go.Operand.tmp 38, Go.Operand.tmp 39, Go.Operand.tmp 44], argTypes := #[25, 9, 25] }, type := 25, pos := "high.go:132", after := #[{ on := 0, ground := Go.Ground.data }, { on := 1, ground := Go.Ground.data }, { on := 6, ground := Go.Ground.data }], guard := none }) rfl (fun K hK => ?_) ?_
              · go_simp
                refine (rwith_is _ (lowN ok w.heap.size (w.heap.size + 4)) y v.l[k] _ _ v.keys[k] (by exact hHeld.2.2.2.2.2.1) (by exact (XI.out.bel hHeld.2.2.2.2.1).weak lowN_low) OY.out (by have := LY.out; omega) jl).mono ?_
                rintro e w7q ⟨r, rfl, hr, hb⟩
                obtain ⟨u, hu⟩ : ∃ u, withV y v.keys[k] v.l[k] = u := ⟨_, rfl⟩
                rw [hu] at hr
                obtain ⟨g1, g2, h1, h2, rfl⟩ := hr.form
                have U : Hid (In w7q (lowN ok w.heap.size (w.heap.size + 4)) u (.agg #[.int .i64 u.kind, .int .i64 u.n, .string ⟨u.s.toArray⟩, .slice g1 u.keys.length h1, .slice g2 u.l.length h2])) := hidI (hr.weak (lowN_up hHeld.2.2.2.2.2.2))
                have HU := hidI hu
                refine hK.out _ _ (hHeld.bel hb) (fun hHeld2 => ?_)
                clear hu hr hb
                clear hK K
                replace hHeld := hHeld2
                clear hHeld2
                try simp only [Act.put, List.setIfInBounds_toArray, List.set_cons_zero, List.set_cons_succ]
                obtain ⟨o0, o1, o2, o3, o4, f0, f1, f2, f3, f4⟩ := hHeld.2.2.2.1.c
                have HE := hidI hHeld
                clear hHeld
                refine wpAnyT_last (i := 8) (o := { dst := none, op := Go.Op.store 25 (Go.Operand.tmp 5) (Go.Operand.tmp 45), type := 0, pos := "high.go:132", after := #[{ on := 7, ground := Go.Ground.data }, { on := 7, ground := Go.Ground.chain }, { on := 0, ground := Go.Ground.phase }, { on := 1, ground := Go.Ground.phase }, { on := 2, ground := Go.Ground.phase }, { on := 3, ground := Go.Ground.phase }, { on := 4, ground := Go.Ground.phase }, { on := 5, ground := Go.Ground.phase }, { on := 6, ground := Go.Ground.phase }, { on := 7, ground := Go.Ground.phase }], guard := none }) (by kernel_rfl) (by rfl) rfl (fun K hK => ?_)
                go_simp
                refine hK.out _ _ ?_
                clear hK K
                try simp only [Act.put, List.setIfInBounds_toArray, List.set_cons_zero, List.set_cons_succ]
                refine wpAnyT_done (by kernel_rfl) ?_ _
                go_wp2_with fail
                go_roundg (v.keys.length - (k + 1))
                case measure => rw [GK.out]; omega
                case rel => exact ⟨k + 1, hlt, rfl, by go_num, FIN.out u HU.out.symm _ _ _ _ _ HE.out U.out⟩
              exact AllReadyT.nil
          · have hke : k = v.keys.length := by omega
            have FIN : Hid (R2 w ok E v p a1 a2 a3 a4 c1 c2 c3 c4 0 wr) := hidI ⟨y, b1, b2, e1', e2', by rw [List.take_zero, List.foldl_nil, KV.out, HY.out, List.take_of_length_le (by rw [List.length_zip]; have := HVL.out; omega)], I.out⟩
            have d1 : ¬ (k : Int) < (v.keys.length : Int) := by omega
            clear hke
            go_wp2_with fail
            go_meet
            case rel => exact FIN.out
      case rest =>
        have I0 := hidI hcut
        clear s0 s1 s2 s3 s4 t0 t1 t2 t3 t4 ST
        obtain ⟨y, b1, b2, e1', e2', -, i1⟩ := hcut
        obtain ⟨t0, t1, t2, t3, t4, -⟩ := i1.2.1.c
        clear i1
        go_wp2_with fail
        go_loopg [50] p.keys.length (fun gk i wr => ∃ k : Nat, k ≤ p.keys.length ∧ gk = p.keys.length - k ∧ i = .int .i64 k ∧ R2 w ok E v p a1 a2 a3 a4 c1 c2 c3 c4 k wr)
        case atStart => exact ⟨0, Nat.zero_le _, rfl, rfl, I0.out⟩
        case round =>
          clear t0 t1 t2 t3 t4 I0
          obtain ⟨k, hk, hgk, rfl, y, b1, b2, e1', e2', hy, hI⟩ := hrel
          have GK := hidI hgk
          have I := hidI hI
          have HY := hidI hy
          clear hgk hI hy
          obtain ⟨s0, s1, s2, s3, s4, -⟩ := I.out.1.c
          obtain ⟨t0, t1, t2, t3, t4, -⟩ := I.out.2.1.c
          by_cases hlt : k < p.keys.length
          · have hlt' : k < p.l.length := by have := HKL.out; omega
            obtain ⟨kb, ko, rfl, j1, j2, jk, jl⟩ := Hp.out.key hlt
            obtain ⟨xb, xo, b5, d5, b6, d6, rfl, j3, j4, g0, g1, g2, g3, g4, g5⟩ := Hp.out.item hlt'
            have G0 := hidI g0
            have G1 := hidI g1
            have G2 := hidI g2
            have G3 := hidI g3
            have G4 := hidI g4
            have XI := hidI g5
            have w1 : (0 : Int) ≤ (k : Int) := by omega
            have w2 : (k : Int) < (p.l.length : Int) := by omega
            have w3 : (k : Int) < (p.keys.length : Int) := by omega
            replace jk := cell_bel I.out.2.2.2.2.1 jk
            replace g0 := cell_bel I.out.2.2.2.2.1 g0
            have OY : Hid (Ob y) := hidI (by rw [HY.out]; exact (r2_ob NV.out NP.out).1)
            have LY : Hid (y.l.length ≤ 240) := hidI (by rw [HY.out]; exact (r2_ob NV.out NP.out).2)
            by_cases hn : p.l[k].kind = 0
            · have e3 : (p.l[k].kind != 0) = false := by rw [hn]; rfl
              have FIN : Hid (R2 w ok E v p a1 a2 (some ⟨kb, ko, none⟩) (some ⟨xb, xo, none⟩) c1 c2 c3 c4 (k + 1) wr) := hidI ⟨y, b1, b2, e1', e2', by rw [zip_step hlt hlt', ← HY.out, stepN, if_pos hn], I.out⟩
              clear hn
              go_wp2_with fail
              go_roundg (p.keys.length - (k + 1))
              case measure => rw [GK.out]; omega
              case rel => exact ⟨k + 1, hlt, rfl, by go_num, FIN.out⟩
            · have e3 : (p.l[k].kind != 0) = true := by rw [bne_iff_ne]; exact hn
              have HN := hidI hn
              clear hn
              go_wp2_with fail
              refine (rmember_is _ (fun k => ok k ∧ k < w.heap.size) v _ p.keys[k] (by exact Hv.out.bel I.out.2.2.2.2.1)).mono ?_
              rintro e w4 ⟨r, rfl, hb4, hr⟩
              obtain ⟨q, hq⟩ : ∃ q, (memV v p.keys[k]).getD zeroT = q := ⟨_, rfl⟩
              rw [hq] at hr
              obtain ⟨mb, hmb⟩ : ∃ mb, (memV v p.keys[k]).isSome = mb := ⟨_, rfl⟩
              rw [hmb]
              have NQ : Hid (Nice q) := hidI (by rw [← hq]; exact nice_old NV.out _)
              obtain ⟨g3, g4, h3, h4, rfl⟩ := hr.form
              have hbb := bel_trans hb4 (bel_alloc w4 (.cells #[.int .i64 q.kind, .int .i64 q.n, .string ⟨q.s.toArray⟩, .slice g3 q.keys.length h3, .slice g4 q.l.length h4] 25))
              have K := hidI (I.out.bel hbb)
              have KQ : Hid (BoxIs (w4.alloc (.cells #[.int .i64 q.kind, .int .i64 q.n, .string ⟨q.s.toArray⟩, .slice g3 q.keys.length h3, .slice g4 q.l.length h4] 25)) w4.heap.size (.int .i64 q.kind) (.int .i64 q.n) (.string ⟨q.s.toArray⟩) (.slice g3 q.keys.length h3) (.slice g4 q.l.length h4) ∧ In (w4.alloc (.cells #[.int .i64 q.kind, .int .i64 q.n, .string ⟨q.s.toArray⟩, .slice g3 q.keys.length h3, .slice g4 q.l.length h4] 25)) (lowN ok w.heap.size (w.heap.size + 4)) q (.agg #[.int .i64 q.kind, .int .i64 q.n, .string ⟨q.s.toArray⟩, .slice g3 q.keys.length h3, .slice g4 q.l.length h4])) := hidI ⟨heap_alloc_new w4 _, (hr.bel (bel_alloc _ _)).weak lowN_low⟩
              have FIN : Hid (∀ z u, mergeF E q p.l[k] = z → u = withV y p.keys[k] z → ∀ (W : World) (g1 g2 : Option Addr) (h1 h2 : Nat), RM w ok v p a1 a2 (some ⟨kb, ko, none⟩) (some ⟨xb, xo, none⟩) c1 c2 c3 c4 y b1 b2 e1' e2' W → In W (lowN ok w.heap.size (w.heap.size + 4)) u (.agg #[.int .i64 u.kind, .int .i64 u.n, .string ⟨u.s.toArray⟩, .slice g1 u.keys.length h1, .slice g2 u.l.length h2]) → R2 w ok E v p a1 a2 (some ⟨kb, ko, none⟩) (some ⟨xb, xo, none⟩) c1 c2 c3 c4 (k + 1) (set5 W (w.heap.size + 3) (.int .i64 u.kind) (.int .i64 u.n) (.string ⟨u.s.toArray⟩) (.slice g1 u.keys.length h1) (.slice g2 u.l.length h2))) := hidI (by
                intro z u hz hu W g1 g2 h1 h2 hW hI
                exact ⟨u, g1, g2, h1, h2, by rw [zip_step hlt hlt', ← HY.out, stepN, if_neg HN.out, hq, hz, hu], hW.put hI⟩)
              clear hq hmb hr hb4 hbb s0 s1 s2 s3 s4 t0 t1 t2 t3 t4 jk g0
              go_upto_region 17 with fail
              refine wp_region_T (fun wS => RM w ok v p a1 a2 (some ⟨kb, ko, none⟩) (some ⟨xb, xo, none⟩) c1 c2 c3 c4 y b1 b2 e1' e2' wS ∧ BoxIs wS w4.heap.size (.int .i64 q.kind) (.int .i64 q.n) (.string ⟨q.s.toArray⟩) (.slice g3 q.keys.length h3) (.slice g4 q.l.length h4) ∧ In wS (lowN ok w.heap.size (w.heap.size + 4)) q (.agg #[.int .i64 q.kind, .int .i64 q.n, .string ⟨q.s.toArray⟩, .slice g3 q.keys.length h3, .slice g4 q.l.length h4])) [10] (by kernel_rfl) ⟨K.out.bel (bel_drewN _ 1), box_bel (bel_drewN _ 1) KQ.out.1, KQ.out.2.bel (bel_drewN _ 1)⟩ (fun hHeld => ?_)
              refine wpAnyT_take (i := 0) (v := ?_) [9, 10] (oi := { dst := some 68, op := Go.Op.load 25 (Go.Operand.tmp 5), type := 25, pos := "high.go:139", after := #[], guard := none }) rfl (by kernel_rfl) (by kernel_rfl) (by kernel_rfl) (by kernel_rfl) (fun _ _ _ h => h) (Or.inl ⟨by rfl, ?_⟩) hHeld ?_
              rotate_left
              · intro wS hSw
                obtain ⟨v0, v1, v2, v3, v4, -⟩ := hSw.1.2.1.c
                obtain ⟨y0, y1, y2, y3, y4, -⟩ := hSw.1.2.2.2.1.c
                obtain ⟨q0, q1, q2, q3, q4, -⟩ := hSw.2.1.c
                have i0 := cell_bel hSw.1.2.2.2.2.1 G0.out
                have i1 := cell_bel hSw.1.2.2.2.2.1 G1.out
                have i2 := cell_bel hSw.1.2.2.2.2.1 G2.out
                have i3 := cell_bel hSw.1.2.2.2.2.1 G3.out
                have i4 := cell_bel hSw.1.2.2.2.2.1 G4.out
                go_simp
                all_goals with_reducible rfl
              simp only [Act.put, List.setIfInBounds_toArray, List.set_cons_zero, List.set_cons_succ]
              refine wpAnyT_take (i := 1) (v := ?_) [9, 10] (oi := { dst := some 69, op := Go.Op.move (Go.Operand.tmp 11), type := 9, pos := "high.go:139", after := #[], guard := none }) rfl (by kernel_rfl) (by kernel_rfl) (by kernel_rfl) (by kernel_rfl) (fun _ _ _ h => h) (Or.inl ⟨by rfl, ?_⟩) hHeld ?_
              rotate_left
              · intro wS hSw
                go_simp
                all_goals with_reducible rfl
              simp only [Act.put, List.setIfInBounds_toArray, List.set_cons_zero, List.set_cons_succ]
              refine wpAnyT_take (i := 2) (v := ?_) [8, 9, 10] (oi := { dst := some 70, op := Go.Op.load 25 (Go.Operand.tmp 12), type := 25, pos := "high.go:139", after := #[], guard := none }) rfl (by kernel_rfl) (by kernel_rfl) (by kernel_rfl) (by kernel_rfl) (fun _ _ _ h => h) (Or.inl ⟨by rfl, ?_⟩) hHeld ?_
              rotate_left
              · intro wS hSw
                obtain ⟨v0, v1, v2, v3, v4, -⟩ := hSw.1.2.1.c
                obtain ⟨y0, y1, y2, y3, y4, -⟩ := hSw.1.2.2.2.1.c
                obtain ⟨q0, q1, q2, q3, q4, -⟩ := hSw.2.1.c
                have i0 := cell_bel hSw.1.2.2.2.2.1 G0.out
                have i1 := cell_bel hSw.1.2.2.2.2.1 G1.out
                have i2 := cell_bel hSw.1.2.2.2.2.1 G2.out
                have i3 := cell_bel hSw.1.2.2.2.2.1 G3.out
                have i4 := cell_bel hSw.1.2.2.2.2.1 G4.out
                go_simp
                all_goals with_reducible rfl
              simp only [Act.put, List.setIfInBounds_toArray, List.set_cons_zero, List.set_cons_succ]
              refine wpAnyT_take (i := 3) (v := ?_) [4, 6, 7, 8, 9, 10] (oi := { dst := some 71, op := Go.Op.fieldAddr 25 (Go.Operand.tmp 3) 4, type := 0, pos := "high.go:139", after := #[], guard := none }) rfl (by kernel_rfl) (by kernel_rfl) (by kernel_rfl) (by kernel_rfl) (fun _ _ _ h => h) (Or.inl ⟨by rfl, ?_⟩) hHeld ?_
              rotate_left
              · intro wS hSw
                go_simp
                all_goals with_reducible rfl
              simp only [Act.put, List.setIfInBounds_toArray, List.set_cons_zero, List.set_cons_succ]
              refine wpAnyT_take (i := 4) (v := ?_) [6, 7, 8, 9, 10] (oi := { dst := some 72, op := Go.Op.load 23 (Go.Operand.tmp 71), type := 23, pos := "high.go:139", after := #[{ on := 3, ground := Go.Ground.data }], guard := none }) rfl (by kernel_rfl) (by kernel_rfl) (by kernel_rfl) (by kernel_rfl) (fun _ _ _ h => h) (Or.inl ⟨by rfl, ?_⟩) hHeld ?_
              rotate_left
              · intro wS hSw
                obtain ⟨v0, v1, v2, v3, v4, -⟩ := hSw.1.2.1.c
                obtain ⟨y0, y1, y2, y3, y4, -⟩ := hSw.1.2.2.2.1.c
                obtain ⟨q0, q1, q2, q3, q4, -⟩ := hSw.2.1.c
                have i0 := cell_bel hSw.1.2.2.2.2.1 G0.out
                have i1 := cell_bel hSw.1.2.2.2.2.1 G1.out
                have i2 := cell_bel hSw.1.2.2.2.2.1 G2.out
                have i3 := cell_bel hSw.1.2.2.2.2.1 G3.out
                have i4 := cell_bel hSw.1.2.2.2.2.1 G4.out
                go_simp
                all_goals with_reducible rfl
              simp only [Act.put, List.setIfInBounds_toArray, List.set_cons_zero, List.set_cons_succ]
              refine wpAnyT_take (i := 5) (v := ?_) [6, 7, 8, 9, 10] (oi := { dst := some 73, op := Go.Op.move (Go.Operand.tmp 10), type := 3, pos := "high.go:139", after := #[], guard := none }) rfl (by kernel_rfl) (by kernel_rfl) (by kernel_rfl) (by kernel_rfl) (fun _ _ _ h => h) (Or.inl ⟨by rfl, ?_⟩) hHeld ?_
              rotate_left
              · intro wS hSw
                go_simp
                all_goals with_reducible rfl
              simp only [Act.put, List.setIfInBounds_toArray, List.set_cons_zero, List.set_cons_succ]
              refine wpAnyT_take (i := 6) (v := ?_) [7, 8, 9, 10] (oi := { dst := some 74, op := Go.Op.indexAddr 23 (Go.Operand.tmp 72) (Go.Operand.tmp 73), type := 0, pos := "high.go:139", after := #[{ on := 4, ground := Go.Ground.data }, { on := 5, ground := Go.Ground.data }], guard := none }) rfl (by kernel_rfl) (by kernel_rfl) (by kernel_rfl) (by kernel_rfl) (fun _ _ _ h => h) (Or.inl ⟨by rfl, ?_⟩) hHeld ?_
              rotate_left
              · intro wS hSw
                go_simp
                all_goals with_reducible rfl
              simp only [Act.put, List.setIfInBounds_toArray, List.set_cons_zero, List.set_cons_succ]
              refine wpAnyT_take (i := 7) (v := ?_) [8, 9, 10] (oi := { dst := some 75, op := Go.Op.load 25 (Go.Operand.tmp 74), type := 25, pos := "high.go:139", after := #[{ on := 6, ground := Go.Ground.data }], guard := none }) rfl (by kernel_rfl) (by kernel_rfl) (by kernel_rfl) (by kernel_rfl) (fun _ _ _ h => h) (Or.inl ⟨by rfl, ?_⟩) hHeld ?_
              rotate_left
              · intro wS hSw
                obtain ⟨v0, v1, v2, v3, v4, -⟩ := hSw.1.2.1.c
                obtain ⟨y0, y1, y2, y3, y4, -⟩ := hSw.1.2.2.2.1.c
                obtain ⟨q0, q1, q2, q3, q4, -⟩ := hSw.2.1.c
                have i0 := cell_bel hSw.1.2.2.2.2.1 G0.out
                have i1 := cell_bel hSw.1.2.2.2.2.1 G1.out
                have i2 := cell_bel hSw.1.2.2.2.2.1 G2.out
                have i3 := cell_bel hSw.1.2.2.2.2.1 G3.out
                have i4 := cell_bel hSw.1.2.2.2.2.1 G4.out
                go_simp
                all_goals with_reducible rfl
              simp only [Act.put, List.setIfInBounds_toArray, List.set_cons_zero, List.set_cons_succ]
              refine wpAnyT_ready (rs := [8]) (by kernel_rfl) (by simp) ?_
              refine AllReadyT.cons (i := 8) (o := { dst := some 76, op := Go.Op.call { callee := Go.Callee.value (Go.Operand.func 16), args := #[Go.Operand.tmp 70, Go.Operand.tmp 75], argTypes := #[25, 25] }, type := 25, pos := "high.go:139", after := #[{ on := 2, ground := Go.Ground.data }, { on := 7, ground := Go.Ground.data }], guard := none }) rfl (fun K hK => ?_) ?_
              · go_simp
                refine (IH.out _ (lowN ok w.heap.size (w.heap.size + 4)) q p.l[k] _ _ (by exact hHeld.2.2) (by exact (XI.out.bel hHeld.1.2.2.2.2.1).weak lowN_low) NQ.out (nice_mem NP.out (List.getElem_mem hlt')) (HD.out _ (List.getElem_mem hlt'))).mono ?_
                rintro e w8q ⟨r, rfl, hb, hr⟩
                obtain ⟨z, hz⟩ : ∃ z, mergeF E q p.l[k] = z := ⟨_, rfl⟩
                rw [hz] at hr
                have ZZ := hidI (hr.weak (lowN_up hHeld.1.2.2.2.2.2.2))
                have HZ := hidI hz
                refine hK.out _ _ (⟨hHeld.1.bel hb, box_bel hb hHeld.2.1, hHeld.2.2.bel hb⟩) (fun hHeld2 => ?_)
                clear hz hr hb
                clear hK K
                replace hHeld := hHeld2
                clear hHeld2
                try simp only [Act.put, List.setIfInBounds_toArray, List.set_cons_zero, List.set_cons_succ]
                refine wpAnyT_ready (rs := [9]) (by kernel_rfl) (by simp) ?_
                refine AllReadyT.cons (i := 9) (o := { dst := some 77, op := Go.Op.call { callee := Go.Callee.value (Go.Operand.func 28), args := #[Go.Operand.tmp 68, Go.Operand.tmp 69, Go.Operand.tmp 76], argTypes := #[25, 9, 25] }, type := 25, pos := "high.go:139", after := #[{ on := 0, ground := Go.Ground.data }, { on := 1, ground := Go.Ground.data }, { on := 8, ground := Go.Ground.data }, { on := 8, ground := Go.Ground.chain }], guard := none }) rfl (fun K hK => ?_) ?_
                · go_simp
                  refine (rwith_is _ (lowN ok w.heap.size (w.heap.size + 4)) y z _ _ p.keys[k] (by exact hHeld.1.2.2.2.2.2.1) (by exact ZZ.out) OY.out (by have := LY.out; omega) jl).mono ?_
                  rintro e w9q ⟨r2, rfl, hr2, hb⟩
                  obtain ⟨u, hu⟩ : ∃ u, withV y p.keys[k] z = u := ⟨_, rfl⟩
                  rw [hu] at hr2
                  obtain ⟨g1, g2, h1, h2, rfl⟩ := hr2.form
                  have U : Hid (In w9q (lowN ok w.heap.size (w.heap.size + 4)) u (.agg #[.int .i64 u.kind, .int .i64 u.n, .string ⟨u.s.toArray⟩, .slice g1 u.keys.length h1, .slice g2 u.l.length h2])) := hidI (hr2.weak (lowN_up hHeld.1.2.2.2.2.2.2))
                  have HU := hidI hu
                  refine hK.out _ _ (⟨hHeld.1.bel hb, box_bel hb hHeld.2.1, hHeld.2.2.bel hb⟩) (fun hHeld2 => ?_)
                  clear hu hr2 hb
                  clear hK K
                  replace hHeld := hHeld2
                  clear hHeld2
                  try simp only [Act.put, List.setIfInBounds_toArray, List.set_cons_zero, List.set_cons_succ]
                  obtain ⟨o0, o1, o2, o3, o4, f0, f1, f2, f3, f4⟩ := hHeld.1.2.2.2.1.c
                  have HE := hidI hHeld
                  clear hHeld
                  refine wpAnyT_last (i := 10) (o := { dst := none, op := Go.Op.store 25 (Go.Operand.tmp 5) (Go.Operand.tmp 77), type := 0, pos := "high.go:139", after := #[{ on := 9, ground := Go.Ground.data }, { on := 9, ground := Go.Ground.chain }, { on := 0, ground := Go.Ground.phase }, { on := 1, ground := Go.Ground.phase }, { on := 2, ground := Go.Ground.phase }, { on := 3, ground := Go.Ground.phase }, { on := 4, ground := Go.Ground.phase }, { on := 5, ground := Go.Ground.phase }, { on := 6, ground := Go.Ground.phase }, { on := 7, ground := Go.Ground.phase }, { on := 8, ground := Go.Ground.phase }, { on := 9, ground := Go.Ground.phase }], guard := none }) (by kernel_rfl) (by rfl) rfl (fun K hK => ?_)
                  go_simp
                  refine hK.out _ _ ?_
                  clear hK K
                  try simp only [Act.put, List.setIfInBounds_toArray, List.set_cons_zero, List.set_cons_succ]
                  refine wpAnyT_done (by kernel_rfl) ?_ _
                  go_wp2_with fail
                  go_roundg (p.keys.length - (k + 1))
                  case measure => rw [GK.out]; omega
                  case rel => exact ⟨k + 1, hlt, rfl, by go_num, FIN.out z u HZ.out HU.out.symm _ _ _ _ _ HE.out.1 U.out⟩
                exact AllReadyT.nil
              exact AllReadyT.nil
          · have hke : k = p.keys.length := by omega
            have HF : Hid (mergeF (E + 1) v p = y) := hidI (by rw [← HM.out, HY.out, List.take_of_length_le (by rw [List.length_zip]; have := HKL.out; omega)])
            have d1 : ¬ (k : Int) < (p.keys.length : Int) := by omega
            obtain ⟨y0, y1, y2, y3, y4, -⟩ := I.out.2.2.2.1.c
            obtain ⟨z0, z1, z2, z3, z4, z5, z6, z7, z8, z9⟩ := I.out.2.2.1.c
            have Z : Hid (_ ∧ _) := hidI (sto_out (g := w.heap.size + 2) I.out.2.2.2.2.2.1 I.out.2.2.2.2.1 (by omega) (by omega))
            have ZB : Hid _ := hidI (I.out.2.2.1.set (.int .i64 y.kind) (.int .i64 y.n) (.string ⟨y.s.toArray⟩) (.slice b1 y.keys.length e1') (.slice b2 y.l.length e2'))
            clear hke
            go_wp2_with fail
            obtain ⟨q0, q1, q2, q3, q4, -⟩ := ZB.out.c
            refine bodyPost_ret (v := .agg #[.int .i64 y.kind, .int .i64 y.n, .string ⟨y.s.toArray⟩, .slice b1 y.keys.length e1', .slice b2 y.l.length e2']) ?_ rfl ?_
            · simp only [set5] at q0 q1 q2 q3 q4
              simp [results, Tryz.results16, go_sem, q0, q1, q2, q3, q4]
            · exact ⟨_, rfl, Z.out.1, by rw [HF.out]; exact Z.out.2⟩
    · have e1 : (v.kind == 5) = false := by rw [beq_eq_false_iff_ne]; exact hv5
      have KV : Hid (keptV v p = objT) := hidI (by rw [keptV, if_neg hv5])
      clear hv5
      have ST : Hid (RM w ok v p a1 a2 a3 a4 c1 c2 c3 c4 objT none none 0 0 _) := hidI RM.start
      obtain ⟨s0, s1, s2, s3, s4, -⟩ := ST.out.1.c
      obtain ⟨t0, t1, t2, t3, t4, -⟩ := ST.out.2.1.c
      go_enter Tryz.func16, Tryz.ntmps16
      go_upto_if 21 with fail
      go_cut [] (fun wc => R2 w ok E v p a1 a2 a3 a4 c1 c2 c3 c4 0 wc)
      case first =>
        go_wp2_with fail
        go_meet
        case rel => exact ⟨objT, none, none, 0, 0, by rw [List.take_zero, List.foldl_nil, KV.out], ST.out⟩
      case rest =>
        have I0 := hidI hcut
        clear s0 s1 s2 s3 s4 t0 t1 t2 t3 t4 ST
        obtain ⟨y, b1, b2, e1', e2', -, i1⟩ := hcut
        obtain ⟨t0, t1, t2, t3, t4, -⟩ := i1.2.1.c
        clear i1
        go_wp2_with fail
        go_loopg [50] p.keys.length (fun gk i wr => ∃ k : Nat, k ≤ p.keys.length ∧ gk = p.keys.length - k ∧ i = .int .i64 k ∧ R2 w ok E v p a1 a2 a3 a4 c1 c2 c3 c4 k wr)
        case atStart => exact ⟨0, Nat.zero_le _, rfl, rfl, I0.out⟩
        case round =>
          clear t0 t1 t2 t3 t4 I0
          obtain ⟨k, hk, hgk, rfl, y, b1, b2, e1', e2', hy, hI⟩ := hrel
          have GK := hidI hgk
          have I := hidI hI
          have HY := hidI hy
          clear hgk hI hy
          obtain ⟨s0, s1, s2, s3, s4, -⟩ := I.out.1.c
          obtain ⟨t0, t1, t2, t3, t4, -⟩ := I.out.2.1.c
          by_cases hlt : k < p.keys.length
          · have hlt' : k < p.l.length := by have := HKL.out; omega
            obtain ⟨kb, ko, rfl, j1, j2, jk, jl⟩ := Hp.out.key hlt
            obtain ⟨xb, xo, b5, d5, b6, d6, rfl, j3, j4, g0, g1, g2, g3, g4, g5⟩ := Hp.out.item hlt'
            have G0 := hidI g0
            have G1 := hidI g1
            have G2 := hidI g2
            have G3 := hidI g3
            have G4 := hidI g4
            have XI := hidI g5
            have w1 : (0 : Int) ≤ (k : Int) := by omega
            have w2 : (k : Int) < (p.l.length : Int) := by omega
            have w3 : (k : Int) < (p.keys.length : Int) := by omega
            replace jk := cell_bel I.out.2.2.2.2.1 jk
            replace g0 := cell_bel I.out.2.2.2.2.1 g0
            have OY : Hid (Ob y) := hidI (by rw [HY.out]; exact (r2_ob NV.out NP.out).1)
            have LY : Hid (y.l.length ≤ 240) := hidI (by rw [HY.out]; exact (r2_ob NV.out NP.out).2)
            by_cases hn : p.l[k].kind = 0
            · have e3 : (p.l[k].kind != 0) = false := by rw [hn]; rfl
              have FIN : Hid (R2 w ok E v p a1 a2 (some ⟨kb, ko, none⟩) (some ⟨xb, xo, none⟩) c1 c2 c3 c4 (k + 1) wr) := hidI ⟨y, b1, b2, e1', e2', by rw [zip_step hlt hlt', ← HY.out, stepN, if_pos hn], I.out⟩
              clear hn
              go_wp2_with fail
              go_roundg (p.keys.length - (k + 1))
              case measure => rw [GK.out]; omega
              case rel => exact ⟨k + 1, hlt, rfl, by go_num, FIN.out⟩
            · have e3 : (p.l[k].kind != 0) = true := by rw [bne_iff_ne]; exact hn
              have HN := hidI hn
              clear hn
              go_wp2_with fail
              refine (rmember_is _ (fun k => ok k ∧ k < w.heap.size) v _ p.keys[k] (by exact Hv.out.bel I.out.2.2.2.2.1)).mono ?_
              rintro e w4 ⟨r, rfl, hb4, hr⟩
              obtain ⟨q, hq⟩ : ∃ q, (memV v p.keys[k]).getD zeroT = q := ⟨_, rfl⟩
              rw [hq] at hr
              obtain ⟨mb, hmb⟩ : ∃ mb, (memV v p.keys[k]).isSome = mb := ⟨_, rfl⟩
              rw [hmb]
              have NQ : Hid (Nice q) := hidI (by rw [← hq]; exact nice_old NV.out _)
              obtain ⟨g3, g4, h3, h4, rfl⟩ := hr.form
              have hbb := bel_trans hb4 (bel_alloc w4 (.cells #[.int .i64 q.kind, .int .i64 q.n, .string ⟨q.s.toArray⟩, .slice g3 q.keys.length h3, .slice g4 q.l.length h4] 25))
              have K := hidI (I.out.bel hbb)
              have KQ : Hid (BoxIs (w4.alloc (.cells #[.int .i64 q.kind, .int .i64 q.n, .string ⟨q.s.toArray⟩, .slice g3 q.keys.length h3, .slice g4 q.l.length h4] 25)) w4.heap.size (.int .i64 q.kind) (.int .i64 q.n) (.string ⟨q.s.toArray⟩) (.slice g3 q.keys.length h3) (.slice g4 q.l.length h4) ∧ In (w4.alloc (.cells #[.int .i64 q.kind, .int .i64 q.n, .string ⟨q.s.toArray⟩, .slice g3 q.keys.length h3, .slice g4 q.l.length h4] 25)) (lowN ok w.heap.size (w.heap.size + 4)) q (.agg #[.int .i64 q.kind, .int .i64 q.n, .string ⟨q.s.toArray⟩, .slice g3 q.keys.length h3, .slice g4 q.l.length h4])) := hidI ⟨heap_alloc_new w4 _, (hr.bel (bel_alloc _ _)).weak lowN_low⟩
              have FIN : Hid (∀ z u, mergeF E q p.l[k] = z → u = withV y p.keys[k] z → ∀ (W : World) (g1 g2 : Option Addr) (h1 h2 : Nat), RM w ok v p a1 a2 (some ⟨kb, ko, none⟩) (some ⟨xb, xo, none⟩) c1 c2 c3 c4 y b1 b2 e1' e2' W → In W (lowN ok w.heap.size (w.heap.size + 4)) u (.agg #[.int .i64 u.kind, .int .i64 u.n, .string ⟨u.s.toArray⟩, .slice g1 u.keys.length h1, .slice g2 u.l.length h2]) → R2 w ok E v p a1 a2 (some ⟨kb, ko, none⟩) (some ⟨xb, xo, none⟩) c1 c2 c3 c4 (k + 1) (set5 W (w.heap.size + 3) (.int .i64 u.kind) (.int .i64 u.n) (.string ⟨u.s.toArray⟩) (.slice g1 u.keys.length h1) (.slice g2 u.l.length h2))) := hidI (by
                intro z u hz hu W g1 g2 h1 h2 hW hI
                exact ⟨u, g1, g2, h1, h2, by rw [zip_step hlt hlt', ← HY.out, stepN, if_neg HN.out, hq, hz, hu], hW.put hI⟩)
              clear hq hmb hr hb4 hbb s0 s1 s2 s3 s4 t0 t1 t2 t3 t4 jk g0
              go_upto_region 17 with fail
              refine wp_region_T (fun wS => RM w ok v p a1 a2 (some ⟨kb, ko, none⟩) (some ⟨xb, xo, none⟩) c1 c2 c3 c4 y b1 b2 e1' e2' wS ∧ BoxIs wS w4.heap.size (.int .i64 q.kind) (.int .i64 q.n) (.string ⟨q.s.toArray⟩) (.slice g3 q.keys.length h3) (.slice g4 q.l.length h4) ∧ In wS (lowN ok w.heap.size (w.heap.size + 4)) q (.agg #[.int .i64 q.kind, .int .i64 q.n, .string ⟨q.s.toArray⟩, .slice g3 q.keys.length h3, .slice g4 q.l.length h4])) [10] (by kernel_rfl) ⟨K.out.bel (bel_drewN _ 1), box_bel (bel_drewN _ 1) KQ.out.1, KQ.out.2.bel (bel_drewN _ 1)⟩ (fun hHeld => ?_)
              refine wpAnyT_take (i := 0) (v := ?_) [9, 10] (oi := { dst := some 68, op := Go.Op.load 25 (Go.Operand.tmp 5), type := 25, pos := "high.go:139", after := #[], guard := none }) rfl (by kernel_rfl) (by kernel_rfl) (by kernel_rfl) (by kernel_rfl) (fun _ _ _ h => h) (Or.inl ⟨by rfl, ?_⟩) hHeld ?_
              rotate_left
              · intro wS hSw
                obtain ⟨v0, v1, v2, v3, v4, -⟩ := hSw.1.2.1.c
                obtain ⟨y0, y1, y2, y3, y4, -⟩ := hSw.1.2.2.2.1.c
                obtain ⟨q0, q1, q2, q3, q4, -⟩ := hSw.2.1.c
                have i0 := cell_bel hSw.1.2.2.2.2.1 G0.out
                have i1 := cell_bel hSw.1.2.2.2.2.1 G1.out
                have i2 := cell_bel hSw.1.2.2.2.2.1 G2.out
                have i3 := cell_bel hSw.1.2.2.2.2.1 G3.out
                have i4 := cell_bel hSw.1.2.2.2.2.1 G4.out
                go_simp
                all_goals with_reducible rfl
              simp only [Act.put, List.setIfInBounds_toArray, List.set_cons_zero, List.set_cons_succ]
              refine wpAnyT_take (i := 1) (v := ?_) [9, 10] (oi := { dst := some 69, op := Go.Op.move (Go.Operand.tmp 11), type := 9, pos := "high.go:139", after := #[], guard := none }) rfl (by kernel_rfl) (by kernel_rfl) (by kernel_rfl) (by kernel_rfl) (fun _ _ _ h => h) (Or.inl ⟨by rfl, ?_⟩) hHeld ?_
              rotate_left
              · intro wS hSw
                go_simp
                all_goals with_reducible rfl
              simp only [Act.put, List.setIfInBounds_toArray, List.set_cons_zero, List.set_cons_succ]
              refine wpAnyT_take (i := 2) (v := ?_) [8, 9, 10] (oi := { dst := some 70, op := Go.Op.load 25 (Go.Operand.tmp 12), type := 25, pos := "high.go:139", after := #[], guard := none }) rfl (by kernel_rfl) (by kernel_rfl) (by kernel_rfl) (by kernel_rfl) (fun _ _ _ h => h) (Or.inl ⟨by rfl, ?_⟩) hHeld ?_
              rotate_left
              · intro wS hSw
                obtain ⟨v0, v1, v2, v3, v4, -⟩ := hSw.1.2.1.c
                obtain ⟨y0, y1, y2, y3, y4, -⟩ := hSw.1.2.2.2.1.c
                obtain ⟨q0, q1, q2, q3, q4, -⟩ := hSw.2.1.c
                have i0 := cell_bel hSw.1.2.2.2.2.1 G0.out
                have i1 := cell_bel hSw.1.2.2.2.2.1 G1.out
                have i2 := cell_bel hSw.1.2.2.2.2.1 G2.out
                have i3 := cell_bel hSw.1.2.2.2.2.1 G3.out
                have i4 := cell_bel hSw.1.2.2.2.2.1 G4.out
                go_simp
                all_goals with_reducible rfl
              simp only [Act.put, List.setIfInBounds_toArray, List.set_cons_zero, List.set_cons_succ]
              refine wpAnyT_take (i := 3) (v := ?_) [4, 6, 7, 8, 9, 10] (oi := { dst := some 71, op := Go.Op.fieldAddr 25 (Go.Operand.tmp 3) 4, type := 0, pos := "high.go:139", after := #[], guard := none }) rfl (by kernel_rfl) (by kernel_rfl) (by kernel_rfl) (by kernel_rfl) (fun _ _ _ h => h) (Or.inl ⟨by rfl, ?_⟩) hHeld ?_
              rotate_left
              · intro wS hSw
                go_simp
                all_goals with_reducible rfl
              simp only [Act.put, List.setIfInBounds_toArray, List.set_cons_zero, List.set_cons_succ]
              refine wpAnyT_take (i := 4) (v := ?_) [6, 7, 8, 9, 10] (oi := { dst := some 72, op := Go.Op.load 23 (Go.Operand.tmp 71), type := 23, pos := "high.go:139", after := #[{ on := 3, ground := Go.Ground.data }], guard := none }) rfl (by kernel_rfl) (by kernel_rfl) (by kernel_rfl) (by kernel_rfl) (fun _ _ _ h => h) (Or.inl ⟨by rfl, ?_⟩) hHeld ?_
              rotate_left
              · intro wS hSw
                obtain ⟨v0, v1, v2, v3, v4, -⟩ := hSw.1.2.1.c
                obtain ⟨y0, y1, y2, y3, y4, -⟩ := hSw.1.2.2.2.1.c
                obtain ⟨q0, q1, q2, q3, q4, -⟩ := hSw.2.1.c
                have i0 := cell_bel hSw.1.2.2.2.2.1 G0.out
                have i1 := cell_bel hSw.1.2.2.2.2.1 G1.out
                have i2 := cell_bel hSw.1.2.2.2.2.1 G2.out
                have i3 := cell_bel hSw.1.2.2.2.2.1 G3.out
                have i4 := cell_bel hSw.1.2.2.2.2.1 G4.out
                go_simp
                all_goals with_reducible rfl
              simp only [Act.put, List.setIfInBounds_toArray, List.set_cons_zero, List.set_cons_succ]
              refine wpAnyT_take (i := 5) (v := ?_) [6, 7, 8, 9, 10] (oi := { dst := some 73, op := Go.Op.move (Go.Operand.tmp 10), type := 3, pos := "high.go:139", after := #[], guard := none }) rfl (by kernel_rfl) (by kernel_rfl) (by kernel_rfl) (by kernel_rfl) (fun _ _ _ h => h) (Or.inl ⟨by rfl, ?_⟩) hHeld ?_
              rotate_left
              · intro wS hSw
                go_simp
                all_goals with_reducible rfl
              simp only [Act.put, List.setIfInBounds_toArray, List.set_cons_zero, List.set_cons_succ]
              refine wpAnyT_take (i := 6) (v := ?_) [7, 8, 9, 10] (oi := { dst := some 74, op := Go.Op.indexAddr 23 (Go.Operand.tmp 72) (Go.Operand.tmp 73), type := 0, pos := "high.go:139", after := #[{ on := 4, ground := Go.Ground.data }, { on := 5, ground := Go.Ground.data }], guard := none }) rfl (by kernel_rfl) (by kernel_rfl) (by kernel_rfl) (by kernel_rfl) (fun _ _ _ h => h) (Or.inl ⟨by rfl, ?_⟩) hHeld ?_
              rotate_left
              · intro wS hSw
                go_simp
                all_goals with_reducible rfl
              simp only [Act.put, List.setIfInBounds_toArray, List.set_cons_zero, List.set_cons_succ]
              refine wpAnyT_take (i := 7) (v := ?_) [8, 9, 10] (oi := { dst := some 75, op := Go.Op.load 25 (Go.Operand.tmp 74), type := 25, pos := "high.go:139", after := #[{ on := 6, ground := Go.Ground.data }], guard := none }) rfl (by kernel_rfl) (by kernel_rfl) (by kernel_rfl) (by kernel_rfl) (fun _ _ _ h => h) (Or.inl ⟨by rfl, ?_⟩) hHeld ?_
              rotate_left
              · intro wS hSw
                obtain ⟨v0, v1, v2, v3, v4, -⟩ := hSw.1.2.1.c
                obtain ⟨y0, y1, y2, y3, y4, -⟩ := hSw.1.2.2.2.1.c
                obtain ⟨q0, q1, q2, q3, q4, -⟩ := hSw.2.1.c
                have i0 := cell_bel hSw.1.2.2.2.2.1 G0.out
                have i1 := cell_bel hSw.1.2.2.2.2.1 G1.out
                have i2 := cell_bel hSw.1.2.2.2.2.1 G2.out
                have i3 := cell_bel hSw.1.2.2.2.2.1 G3.out
                have i4 := cell_bel hSw.1.2.2.2.2.1 G4.out
                go_simp
                all_goals with_reducible rfl
              simp only [Act.put, List.setIfInBounds_toArray, List.set_cons_zero, List.set_cons_succ]
              refine wpAnyT_ready (rs := [8]) (by kernel_rfl) (by simp) ?_
              refine AllReadyT.cons (i := 8) (o := { dst := some 76, op := Go.Op.call { callee := Go.Callee.value (Go.Operand.func 16), args := #[Go.Operand.tmp 70, Go.Operand.tmp 75], argTypes := #[25, 25] }, type := 25, pos := "high.go:139", after := #[{ on := 2, ground := Go.Ground.data }, { on := 7, ground := Go.Ground.data }], guard := none }) rfl (fun K hK => ?_) ?_
              · go_simp
                refine (IH.out _ (lowN ok w.heap.size (w.heap.size + 4)) q p.l[k] _ _ (by exact hHeld.2.2) (by exact (XI.out.bel hHeld.1.2.2.2.2.1).weak lowN_low) NQ.out (nice_mem NP.out (List.getElem_mem hlt')) (HD.out _ (List.getElem_mem hlt'))).mono ?_
                rintro e w8q ⟨r, rfl, hb, hr⟩
                obtain ⟨z, hz⟩ : ∃ z, mergeF E q p.l[k] = z := ⟨_, rfl⟩
                rw [hz] at hr
                have ZZ := hidI (hr.weak (lowN_up hHeld.1.2.2.2.2.2.2))
                have HZ := hidI hz
                refine hK.out _ _ (⟨hHeld.1.bel hb, box_bel hb hHeld.2.1, hHeld.2.2.bel hb⟩) (fun hHeld2 => ?_)
                clear hz hr hb
                clear hK K
                replace hHeld := hHeld2
                clear hHeld2
                try simp only [Act.put, List.setIfInBounds_toArray, List.set_cons_zero, List.set_cons_succ]
                refine wpAnyT_ready (rs := [9]) (by kernel_rfl) (by simp) ?_
                refine AllReadyT.cons (i := 9) (o := { dst := some 77, op := Go.Op.call { callee := Go.Callee.value (Go.Operand.func 28), args := #[Go.Operand.tmp 68, Go.Operand.tmp 69, Go.Operand.tmp 76], argTypes := #[25, 9, 25] }, type := 25, pos := "high.go:139", after := #[{ on := 0, ground := Go.Ground.data }, { on := 1, ground := Go.Ground.data }, { on := 8, ground := Go.Ground.data }, { on := 8, ground := Go.Ground.chain }], guard := none }) rfl (fun K hK => ?_) ?_
                · go_simp
                  refine (rwith_is _ (lowN ok w.heap.size (w.heap.size + 4)) y z _ _ p.keys[k] (by exact hHeld.1.2.2.2.2.2.1) (by exact ZZ.out) OY.out (by have := LY.out; omega) jl).mono ?_
                  rintro e w9q ⟨r2, rfl, hr2, hb⟩
                  obtain ⟨u, hu⟩ : ∃ u, withV y p.keys[k] z = u := ⟨_, rfl⟩
                  rw [hu] at hr2
                  obtain ⟨g1, g2, h1, h2, rfl⟩ := hr2.form
                  have U : Hid (In w9q (lowN ok w.heap.size (w.heap.size + 4)) u (.agg #[.int .i64 u.kind, .int .i64 u.n, .string ⟨u.s.toArray⟩, .slice g1 u.keys.length h1, .slice g2 u.l.length h2])) := hidI (hr2.weak (lowN_up hHeld.1.2.2.2.2.2.2))
                  have HU := hidI hu
                  refine hK.out _ _ (⟨hHeld.1.bel hb, box_bel hb hHeld.2.1, hHeld.2.2.bel hb⟩) (fun hHeld2 => ?_)
                  clear hu hr2 hb
                  clear hK K
                  replace hHeld := hHeld2
                  clear hHeld2
                  try simp only [Act.put, List.setIfInBounds_toArray, List.set_cons_zero, List.set_cons_succ]
                  obtain ⟨o0, o1, o2, o3, o4, f0, f1, f2, f3, f4⟩ := hHeld.1.2.2.2.1.c
                  have HE := hidI hHeld
                  clear hHeld
                  refine wpAnyT_last (i := 10) (o := { dst := none, op := Go.Op.store 25 (Go.Operand.tmp 5) (Go.Operand.tmp 77), type := 0, pos := "high.go:139", after := #[{ on := 9, ground := Go.Ground.data }, { on := 9, ground := Go.Ground.chain }, { on := 0, ground := Go.Ground.phase }, { on := 1, ground := Go.Ground.phase }, { on := 2, ground := Go.Ground.phase }, { on := 3, ground := Go.Ground.phase }, { on := 4, ground := Go.Ground.phase }, { on := 5, ground := Go.Ground.phase }, { on := 6, ground := Go.Ground.phase }, { on := 7, ground := Go.Ground.phase }, { on := 8, ground := Go.Ground.phase }, { on := 9, ground := Go.Ground.phase }], guard := none }) (by kernel_rfl) (by rfl) rfl (fun K hK => ?_)
                  go_simp
                  refine hK.out _ _ ?_
                  clear hK K
                  try simp only [Act.put, List.setIfInBounds_toArray, List.set_cons_zero, List.set_cons_succ]
                  refine wpAnyT_done (by kernel_rfl) ?_ _
                  go_wp2_with fail
                  go_roundg (p.keys.length - (k + 1))
                  case measure => rw [GK.out]; omega
                  case rel => exact ⟨k + 1, hlt, rfl, by go_num, FIN.out z u HZ.out HU.out.symm _ _ _ _ _ HE.out.1 U.out⟩
                exact AllReadyT.nil
              exact AllReadyT.nil
          · have hke : k = p.keys.length := by omega
            have HF : Hid (mergeF (E + 1) v p = y) := hidI (by rw [← HM.out, HY.out, List.take_of_length_le (by rw [List.length_zip]; have := HKL.out; omega)])
            have d1 : ¬ (k : Int) < (p.keys.length : Int) := by omega
            obtain ⟨y0, y1, y2, y3, y4, -⟩ := I.out.2.2.2.1.c
            obtain ⟨z0, z1, z2, z3, z4, z5, z6, z7, z8, z9⟩ := I.out.2.2.1.c
            have Z : Hid (_ ∧ _) := hidI (sto_out (g := w.heap.size + 2) I.out.2.2.2.2.2.1 I.out.2.2.2.2.1 (by omega) (by omega))
            have ZB : Hid _ := hidI (I.out.2.2.1.set (.int .i64 y.kind) (.int .i64 y.n) (.string ⟨y.s.toArray⟩) (.slice b1 y.keys.length e1') (.slice b2 y.l.length e2'))
            clear hke
            go_wp2_with fail
            obtain ⟨q0, q1, q2, q3, q4, -⟩ := ZB.out.c
            refine bodyPost_ret (v := .agg #[.int .i64 y.kind, .int .i64 y.n, .string ⟨y.s.toArray⟩, .slice b1 y.keys.length e1', .slice b2 y.l.length e2']) ?_ rfl ?_
            · simp only [set5] at q0 q1 q2 q3 q4
              simp [results, Tryz.results16, go_sem, q0, q1, q2, q3, q4]
            · exact ⟨_, rfl, Z.out.1, by rw [HF.out]; exact Z.out.2⟩
  · have e0 : (p.kind != 5) = true := by rw [bne_iff_ne]; exact hk
    have HM : Hid (mergeF (E + 1) v p = p) := hidI (by rw [mergeF, if_neg hk])
    clear hk
    have B3 : Hid (∀ o1 o2 o3, Below w.heap.size w (((w.alloc o1).alloc o2).alloc o3)) := fun o1 o2 o3 => bel_trans (bel_trans (bel_alloc _ _) (bel_alloc _ _)) (bel_alloc _ _)
    have K := hidI ((Hp.out.bel (B3.out (.cells #[.int .i64 v.kind, .int .i64 v.n, .string ⟨v.s.toArray⟩, .slice a1 v.keys.length c1, .slice a2 v.l.length c2] 25) (.cells #[.int .i64 p.kind, .int .i64 p.n, .string ⟨p.s.toArray⟩, .slice a3 p.keys.length c3, .slice a4 p.l.length c4] 25) (.cells #[.int .i64 p.kind, .int .i64 p.n, .string ⟨p.s.toArray⟩, .slice a3 p.keys.length c3, .slice a4 p.l.length c4] 25))).weak low_out)
    go_enter Tryz.func16, Tryz.ntmps16
    go_wp2_with fail
    refine bodyPost_ret (v := .agg #[.int .i64 p.kind, .int .i64 p.n, .string ⟨p.s.toArray⟩, .slice a3 p.keys.length c3, .slice a4 p.l.length c4]) ?_ rfl ?_
    · simp [results, Tryz.results16, go_sem]
    · exact ⟨_, rfl, B3.out _ _ _, by rw [HM.out]; exact K.out⟩
theorem rmerged_is (E : Nat) : RMgC E := by
  induction E with
  | zero => intro w ok v p vv pv _ _ _ _ h; exact h.elim
  | succ E ih => exact rmerged_succ E ih
end Go.Proofs.YtfbddgpekbhpfacGreatDoor

/- What SameValue of package stairwellref does. -/
set_option linter.unusedSimpArgs false
set_option linter.unusedVariables false
namespace Go.Proofs.YtfbddgpekbhpfacGreatDoor
open Go.RowKit

def RSameC (d : Nat) : Prop := ∀ (w : World) (ok ok' : Nat → Prop) (a b : V) (va vb : Value), VIs w ok d a va → VIs w ok' d b vb →
    Calls Tryz.prog 7 #[va, vb] w fun e w' => e = .returned (.bool (sameS d a b)) ∧ Below w.heap.size w w'

set_option maxRecDepth 100000 in
set_option maxHeartbeats 8000000 in
theorem rsame_succ (d : Nat) (ih : RSameC d) : RSameC (d + 1) := by
  intro w ok ok' a b va vb ha hb
  obtain ⟨a1, a2, c1, c2, rfl⟩ := ha.shape
  obtain ⟨b1, b2, d1, d2, rfl⟩ := hb.shape
  have IH := hidI ih
  have lA : a.keys.length ≤ maxLen ∧ a.l.length ≤ maxLen := by obtain ⟨ks, ls, e, h1, h2, h3, h4, h5⟩ := ha; exact ⟨h4.1, h5.1⟩
  have lB : b.keys.length ≤ maxLen ∧ b.l.length ≤ maxLen := by obtain ⟨ks, ls, e, h1, h2, h3, h4, h5⟩ := hb; exact ⟨h4.1, h5.1⟩
  unfold maxLen at lA lB
  obtain ⟨lA1, lA2⟩ := lA
  obtain ⟨lB1, lB2⟩ := lB
  have HA := hidI ha
  have HB := hidI hb
  clear ha hb ih
  by_cases hk : ¬ (a.kind = b.kind)
  · have F : Hid (sameS (d + 1) a b = false) := hidI (by simp [sameS, hk])
    have Ehk : (a.kind == b.kind) = false := by rw [beq_eq_false_iff_ne]; exact hk
    have Nhk : (a.kind != b.kind) = true := by simp [bne, Ehk]
    go_enter Tryz.func7, Tryz.ntmps7
    go_wp2_with fail
    all_goals
      go_ret
      rw [F.out]
      exact ⟨rfl, bel_trans (bel_alloc _ _) (bel_alloc _ _)⟩
  rw [Decidable.not_not] at hk
  by_cases hn : ¬ (a.n = b.n)
  · have F : Hid (sameS (d + 1) a b = false) := hidI (by simp [sameS, hn])
    have Ehk : (a.kind == b.kind) = true := by rw [beq_iff_eq]; exact hk
    have Ehn : (a.n == b.n) = false := by rw [beq_eq_false_iff_ne]; exact hn
    have Nhn : (a.n != b.n) = true := by simp [bne, Ehn]
    clear hk
    go_enter Tryz.func7, Tryz.ntmps7
    go_wp2_with fail
    all_goals
      go_ret
      rw [F.out]
      exact ⟨rfl, bel_trans (bel_alloc _ _) (bel_alloc _ _)⟩
  rw [Decidable.not_not] at hn
  by_cases hs : ¬ (a.s = b.s)
  · have F : Hid (sameS (d + 1) a b = false) := hidI (by simp [sameS, hs])
    have Ehk : (a.kind == b.kind) = true := by rw [beq_iff_eq]; exact hk
    have Ehn : (a.n == b.n) = true := by rw [beq_iff_eq]; exact hn
    have Ehs : (ByteArray.mk a.s.toArray == ByteArray.mk b.s.toArray) = false := ba_ne (by simpa using hs)
    have Nhs : (ByteArray.mk a.s.toArray != ByteArray.mk b.s.toArray) = true := by simp [bne, Ehs]
    clear hk hn
    go_enter Tryz.func7, Tryz.ntmps7
    go_wp2_with fail
    all_goals
      go_ret
      rw [F.out]
      exact ⟨rfl, bel_trans (bel_alloc _ _) (bel_alloc _ _)⟩
  rw [Decidable.not_not] at hs
  by_cases hkl : ¬ (a.keys.length = b.keys.length)
  · have hkx : a.keys ≠ b.keys := fun e => hkl (by rw [e])
    have F : Hid (sameS (d + 1) a b = false) := hidI (by simp [sameS, hkx])
    have Ehk : (a.kind == b.kind) = true := by rw [beq_iff_eq]; exact hk
    have Ehn : (a.n == b.n) = true := by rw [beq_iff_eq]; exact hn
    have Ehs : (ByteArray.mk a.s.toArray == ByteArray.mk b.s.toArray) = true := ba_eq (by simpa using hs)
    have Ehkl : ((a.keys.length : Int) == (b.keys.length : Int)) = false := by rw [beq_eq_false_iff_ne]; omega
    have Nhkl : ((a.keys.length : Int) != (b.keys.length : Int)) = true := by simp only [bne, Ehkl, Bool.not_false]
    clear hkx
    clear hk hn hs
    go_enter Tryz.func7, Tryz.ntmps7
    go_wp2_with fail
    all_goals
      go_ret
      rw [F.out]
      exact ⟨rfl, bel_trans (bel_alloc _ _) (bel_alloc _ _)⟩
  rw [Decidable.not_not] at hkl
  by_cases hll : ¬ (a.l.length = b.l.length)
  · have F : Hid (sameS (d + 1) a b = false) := hidI (by simp [sameS, hll])
    have Ehk : (a.kind == b.kind) = true := by rw [beq_iff_eq]; exact hk
    have Ehn : (a.n == b.n) = true := by rw [beq_iff_eq]; exact hn
    have Ehs : (ByteArray.mk a.s.toArray == ByteArray.mk b.s.toArray) = true := ba_eq (by simpa using hs)
    have Ehkl : ((a.keys.length : Int) == (b.keys.length : Int)) = true := by rw [beq_iff_eq]; omega
    have Ehll : ((a.l.length : Int) == (b.l.length : Int)) = false := by rw [beq_eq_false_iff_ne]; omega
    have Nhll : ((a.l.length : Int) != (b.l.length : Int)) = true := by simp only [bne, Ehll, Bool.not_false]
    clear hk hn hs hkl
    go_enter Tryz.func7, Tryz.ntmps7
    go_wp2_with fail
    all_goals
      go_ret
      rw [F.out]
      exact ⟨rfl, bel_trans (bel_alloc _ _) (bel_alloc _ _)⟩
  rw [Decidable.not_not] at hll
  have FS : Hid (sameS (d + 1) a b = (decide (a.keys = b.keys) && allS (sameS d) a.l b.l)) := hidI (by simp [sameS, hk, hn, hs, hll])
  have HKL := hidI hkl
  have HLL := hidI hll
  rw [← hk, ← hn, ← hs, ← hkl, ← hll] at HB ⊢
  have es : (ByteArray.mk a.s.toArray == ByteArray.mk a.s.toArray) = true := ba_eq rfl
  have I0 : Hid (SameI w ((w.alloc (.cells #[.int .i64 a.kind, .int .i64 a.n, .string ⟨a.s.toArray⟩, .slice a1 a.keys.length c1, .slice a2 a.l.length c2] 25)).alloc (.cells #[.int .i64 a.kind, .int .i64 a.n, .string ⟨a.s.toArray⟩, .slice b1 a.keys.length d1, .slice b2 a.l.length d2] 25)) ok ok' (d + 1) a b a.kind a.n a.s a.keys.length a.l.length a1 a2 b1 b2 c1 c2 d1 d2) :=
    ⟨h2a w _ _, h2b w _ _, HA.out.bel (bel_trans (bel_alloc _ _) (bel_alloc _ _)), HB.out.bel (bel_trans (bel_alloc _ _) (bel_alloc _ _)), bel_trans (bel_alloc _ _) (bel_alloc _ _)⟩
  clear hk hn hs hkl hll
  go_enter Tryz.func7, Tryz.ntmps7
  go_wp2_with fail
  go_loopg [47] a.keys.length (fun gk i wr => ∃ (k : Nat), k ≤ a.keys.length ∧ gk = a.keys.length - k ∧ i = .int .i64 k ∧ (∀ j, j < k → a.keys[j]? = b.keys[j]?) ∧ SameI w wr ok ok' (d + 1) a b a.kind a.n a.s a.keys.length a.l.length a1 a2 b1 b2 c1 c2 d1 d2)
  case atStart => exact ⟨0, Nat.zero_le _, rfl, rfl, fun j hj => absurd hj (by omega), I0.out⟩
  case round =>
    obtain ⟨k, hk, hgk, rfl, hke, hI⟩ := hrel
    have A := hidI (And.intro hke hI)
    obtain ⟨x0, x1, x2, x3, x4, -⟩ := hI.1.c
    obtain ⟨y0, y1, y2, y3, y4, -⟩ := hI.2.1.c
    clear hke
    by_cases hlt : k < a.keys.length
    · have hlt2 : k < b.keys.length := by rw [← HKL.out]; exact hlt
      obtain ⟨g1, o1, rfl, z1, z2, z3⟩ : ∃ g1 o1, a1 = some ⟨g1, o1, none⟩ ∧ a.keys.length ≤ c1 ∧ c1 ≤ maxLen ∧ wr.cell? ⟨g1, o1 + k, none⟩ = some (.string ⟨a.keys[k].toArray⟩) := by
        obtain ⟨ks, ls, e, -, -, -, h4, -⟩ := hI.2.2.1
        simp only [Value.agg.injEq, Array.mk.injEq, List.cons.injEq, and_true] at e
        obtain ⟨-, -, -, rfl, -⟩ := e
        exact strs_at h4 hlt
      obtain ⟨g2, o2, rfl, z4, z5, z6⟩ : ∃ g2 o2, b1 = some ⟨g2, o2, none⟩ ∧ b.keys.length ≤ d1 ∧ d1 ≤ maxLen ∧ wr.cell? ⟨g2, o2 + k, none⟩ = some (.string ⟨b.keys[k].toArray⟩) := by
        obtain ⟨ks, ls, e, -, -, -, h4, -⟩ := hI.2.2.2.1
        simp only [Value.agg.injEq, Array.mk.injEq, List.cons.injEq, and_true] at e
        obtain ⟨-, -, -, rfl, -⟩ := e
        exact strs_at h4 hlt2
      unfold maxLen at z2 z5
      clear hI
      by_cases hq : a.keys[k] = b.keys[k]
      · rw [← hq] at z6
        have q1 : (ByteArray.mk a.keys[k].toArray == ByteArray.mk a.keys[k].toArray) = true := ba_eq rfl
        have HQ := hidI hq
        clear hq
        go_wp2_with fail
        go_quiet (fail)
        go_wp2_with fail
        go_roundg (a.keys.length - (k + 1))
        case measure => omega
        case rel =>
          refine ⟨k + 1, hlt, rfl, by go_num, ?_, A.out.2.drewN _⟩
          intro j hj
          by_cases hjk : j < k
          · exact A.out.1 j hjk
          · have : j = k := by omega
            subst this
            rw [List.getElem?_eq_getElem hlt, List.getElem?_eq_getElem hlt2, HQ.out]
      · have q1 : (ByteArray.mk a.keys[k].toArray == ByteArray.mk b.keys[k].toArray) = false := ba_ne (by simpa using hq)
        have q2 : (a.keys[k] == b.keys[k]) = false := by rw [beq_eq_false_iff_ne]; exact hq
        have HQ := hidI hq
        clear hq
        go_wp2_with fail
        go_quiet (fail)
        go_wp2_with fail
        go_ret
        refine ⟨?_, (A.out.2.drewN _).2.2.2.2⟩
        have hne : a.keys ≠ b.keys := by
          intro e
          apply HQ.out
          have := congrArg (fun l => l[k]?) e
          simp only [List.getElem?_eq_getElem hlt, List.getElem?_eq_getElem hlt2, Option.some.injEq] at this
          exact this
        rw [FS.out]
        simp [hne]
    · have hke : Hid (a.keys = b.keys) := hidI (by
        apply List.ext_getElem?
        intro j
        by_cases hj : j < k
        · exact A.out.1 j hj
        · have h1 : a.keys.length ≤ j := by omega
          rw [List.getElem?_eq_none h1, List.getElem?_eq_none (by rw [← HKL.out]; exact h1)])
      have AI := hidI A.out.2
      clear hI A x0 x1 x2 x3 x4 y0 y1 y2 y3 y4
      obtain ⟨x0, x1, x2, x3, x4, -⟩ := AI.out.1.c
      obtain ⟨y0, y1, y2, y3, y4, -⟩ := AI.out.2.1.c
      go_wp2_with fail
      go_loopg [65] a.l.length (fun gk i wr => ∃ (k : Nat), k ≤ a.l.length ∧ gk = a.l.length - k ∧ i = .int .i64 k ∧ (∀ (j : Nat) (x y : V), j < k → a.l[j]? = some x → b.l[j]? = some y → sameS d x y = true) ∧ SameI w wr ok ok' (d + 1) a b a.kind a.n a.s a.keys.length a.l.length a1 a2 b1 b2 c1 c2 d1 d2)
      case atStart => exact ⟨0, Nat.zero_le _, rfl, rfl, fun j x y hj => absurd hj (by omega), AI.out⟩
      case round =>
        obtain ⟨k', hk', hgk', rfl, hall, hI⟩ := hrel
        have A := hidI (And.intro hall hI)
        clear hall x0 x1 x2 x3 x4 y0 y1 y2 y3 y4
        by_cases hlt' : k' < a.l.length
        · have hltb : k' < b.l.length := by rw [← HLL.out]; exact hlt'
          obtain ⟨g1, o1, rfl, z1, z2, a5, c5, a6, c6, p0, p1, p2, p3, p4, p5⟩ : ∃ g1 o1, a2 = some ⟨g1, o1, none⟩ ∧ a.l.length ≤ c2 ∧ c2 ≤ maxLen ∧ _ := by
            obtain ⟨ks, ls, e, -, -, -, -, h5⟩ := hI.2.2.1
            simp only [Value.agg.injEq, Array.mk.injEq, List.cons.injEq, and_true] at e
            obtain ⟨-, -, -, -, rfl⟩ := e
            exact vals_at h5 hlt'
          obtain ⟨g2, o2, rfl, z4, z5, a5', c5', a6', c6', q0, q1, q2, q3, q4, q5⟩ : ∃ g2 o2, b2 = some ⟨g2, o2, none⟩ ∧ b.l.length ≤ d2 ∧ d2 ≤ maxLen ∧ _ := by
            obtain ⟨ks, ls, e, -, -, -, -, h5⟩ := hI.2.2.2.1
            simp only [Value.agg.injEq, Array.mk.injEq, List.cons.injEq, and_true] at e
            obtain ⟨-, -, -, -, rfl⟩ := e
            exact vals_at h5 hltb
          unfold maxLen at z2 z5
          have x4 := hI.1.c.2.2.2.2.1
          have y4 := hI.2.1.c.2.2.2.2.1
          have CALL : Hid (∀ w', Below wr.heap.size wr w' → Calls Tryz.prog 7 #[.agg #[.int .i64 a.l[k'].kind, .int .i64 a.l[k'].n, .string ⟨a.l[k'].s.toArray⟩, .slice a5 a.l[k'].keys.length c5, .slice a6 a.l[k'].l.length c6], .agg #[.int .i64 b.l[k'].kind, .int .i64 b.l[k'].n, .string ⟨b.l[k'].s.toArray⟩, .slice a5' b.l[k'].keys.length c5', .slice a6' b.l[k'].l.length c6']] w' fun e w3 => e = .returned (.bool (sameS d a.l[k'] b.l[k'])) ∧ Below wr.heap.size wr w3 ∧
              w3.cell? ⟨w.heap.size, 4, none⟩ = some (.slice (some ⟨g1, o1, none⟩) a.l.length c2) ∧ w3.cell? ⟨w.heap.size + 1, 4, none⟩ = some (.slice (some ⟨g2, o2, none⟩) a.l.length d2) ∧
              w3.cell? ⟨g1, o1 + k' * 5, none⟩ = some (.int .i64 a.l[k'].kind) ∧ w3.cell? ⟨g1, o1 + k' * 5 + 1, none⟩ = some (.int .i64 a.l[k'].n) ∧ w3.cell? ⟨g1, o1 + k' * 5 + 2, none⟩ = some (.string ⟨a.l[k'].s.toArray⟩) ∧ w3.cell? ⟨g1, o1 + k' * 5 + 3, none⟩ = some (.slice a5 a.l[k'].keys.length c5) ∧ w3.cell? ⟨g1, o1 + k' * 5 + 4, none⟩ = some (.slice a6 a.l[k'].l.length c6) ∧
              w3.cell? ⟨g2, o2 + k' * 5, none⟩ = some (.int .i64 b.l[k'].kind) ∧ w3.cell? ⟨g2, o2 + k' * 5 + 1, none⟩ = some (.int .i64 b.l[k'].n) ∧ w3.cell? ⟨g2, o2 + k' * 5 + 2, none⟩ = some (.string ⟨b.l[k'].s.toArray⟩) ∧ w3.cell? ⟨g2, o2 + k' * 5 + 3, none⟩ = some (.slice a5' b.l[k'].keys.length c5') ∧ w3.cell? ⟨g2, o2 + k' * 5 + 4, none⟩ = some (.slice a6' b.l[k'].l.length c6')) := by
            intro w' hb'
            refine (IH.out w' ok ok' a.l[k'] b.l[k'] _ _ (p5.bel hb') (q5.bel hb')).mono ?_
            rintro e w3 ⟨rfl, hb3⟩
            have hb4 := bel_trans hb' hb3
            exact ⟨rfl, hb4, cell_bel hb4 x4, cell_bel hb4 y4, cell_bel hb4 p0, cell_bel hb4 p1, cell_bel hb4 p2, cell_bel hb4 p3, cell_bel hb4 p4, cell_bel hb4 q0, cell_bel hb4 q1, cell_bel hb4 q2, cell_bel hb4 q3, cell_bel hb4 q4⟩
          clear hI p5 q5
          go_wp2_with fail
          go_region_held3 (fun w3 => w3.cell? ⟨w.heap.size, 4, none⟩ = some (.slice (some ⟨g1, o1, none⟩) a.l.length c2) ∧ w3.cell? ⟨w.heap.size + 1, 4, none⟩ = some (.slice (some ⟨g2, o2, none⟩) a.l.length d2) ∧
              w3.cell? ⟨g1, o1 + k' * 5, none⟩ = some (.int .i64 a.l[k'].kind) ∧ w3.cell? ⟨g1, o1 + k' * 5 + 1, none⟩ = some (.int .i64 a.l[k'].n) ∧ w3.cell? ⟨g1, o1 + k' * 5 + 2, none⟩ = some (.string ⟨a.l[k'].s.toArray⟩) ∧ w3.cell? ⟨g1, o1 + k' * 5 + 3, none⟩ = some (.slice a5 a.l[k'].keys.length c5) ∧ w3.cell? ⟨g1, o1 + k' * 5 + 4, none⟩ = some (.slice a6 a.l[k'].l.length c6) ∧
              w3.cell? ⟨g2, o2 + k' * 5, none⟩ = some (.int .i64 b.l[k'].kind) ∧ w3.cell? ⟨g2, o2 + k' * 5 + 1, none⟩ = some (.int .i64 b.l[k'].n) ∧ w3.cell? ⟨g2, o2 + k' * 5 + 2, none⟩ = some (.string ⟨b.l[k'].s.toArray⟩) ∧ w3.cell? ⟨g2, o2 + k' * 5 + 3, none⟩ = some (.slice a5' b.l[k'].keys.length c5') ∧ w3.cell? ⟨g2, o2 + k' * 5 + 4, none⟩ = some (.slice a6' b.l[k'].l.length c6')) (go_keep)
            (first | (go_at_call 7; refine (CALL.out _ (by exact ⟨rfl, rfl, rfl, Nat.le_refl _, fun _ _ => rfl⟩)).mono ?_; rintro e w3 ⟨rfl, hb3, s1, s2, s3, s4, s5, s6, s7, s8, s9, s10, s11, s12⟩))
          all_goals
            have A3 := hidI (A.out.2.below hb3)
            clear s1 s2 s3 s4 s5 s6 s7 s8 s9 s10 s11 s12 hb3 p0 p1 p2 p3 p4 q0 q1 q2 q3 q4 x4 y4
            cases hr : sameS d a.l[k'] b.l[k'] with
            | true =>
              have HR := hidI hr
              clear hr
              go_wp2_with fail
              go_roundg (a.l.length - (k' + 1))
              case measure => omega
              case rel =>
                refine ⟨k' + 1, hlt', rfl, by go_num, ?_, A3.out⟩
                intro j x y hj hx hy
                by_cases hjk : j < k'
                · exact A.out.1 j x y hjk hx hy
                · have : j = k' := by omega
                  subst this
                  rw [List.getElem?_eq_getElem hlt'] at hx
                  rw [List.getElem?_eq_getElem hltb] at hy
                  cases hx
                  cases hy
                  exact HR.out
            | false =>
              have HR := hidI hr
              clear hr
              go_wp2_with fail
              go_ret
              refine ⟨?_, A3.out.2.2.2.2⟩
              have hno : allS (sameS d) a.l b.l = false := by
                cases h9 : allS (sameS d) a.l b.l with
                | false => rfl
                | true =>
                  have := (allS_iff _ _).1 h9 k' _ _ (List.getElem?_eq_getElem hlt') (List.getElem?_eq_getElem hltb)
                  rw [HR.out] at this
                  cases this
              rw [FS.out, hno, Bool.and_false]
              rfl
        · have A3 := hidI A.out
          clear hI A
          go_wp2_with fail
          go_ret
          refine ⟨?_, A3.out.2.2.2.2.2⟩
          have hyes : allS (sameS d) a.l b.l = true := (allS_iff _ _).2 fun j x y hx hy => A3.out.1 j x y (by have := (List.getElem?_eq_some_iff.1 hx).1; omega) hx hy
          rw [FS.out, hyes, hke.out]
          simp
theorem rsame_all (d : Nat) : RSameC d := by
  induction d with
  | zero => exact fun _ _ _ _ _ _ _ h => h.elim
  | succ d ih => exact rsame_succ d ih
theorem allS_eq {f : V → V → Bool} : ∀ (l m : List V), l.length = m.length → (∀ x ∈ l, ∀ y, f x y = true ↔ x = y) → (allS f l m = true ↔ l = m)
  | [], [], _, _ => by simp [allS]
  | [], _ :: _, h, _ => by simp at h
  | _ :: _, [], h, _ => by simp at h
  | x :: l, y :: m, h, hf => by
    rw [allS, Bool.and_eq_true, hf x (by simp) y, allS_eq l m (by simpa using h) fun z hz => hf z (by simp [hz]), List.cons.injEq]
theorem sameS_iff (d : Nat) : ∀ (a b : V), Dep d a → (sameS d a b = true ↔ a = b) := by
  induction d with
  | zero => intro a b h; exact h.elim
  | succ d ih =>
    intro a b h
    simp only [sameS, Bool.and_eq_true, decide_eq_true_eq]
    constructor
    · rintro ⟨⟨⟨⟨⟨h1, h2⟩, h3⟩, h4⟩, h5⟩, h6⟩
      have e := (allS_eq a.l b.l h5 fun x hx y => ih x y (h x hx)).1 h6
      rw [← V_eta a, ← V_eta b, h1, h2, h3, h4, e]
    · rintro rfl
      exact ⟨⟨⟨⟨⟨rfl, rfl⟩, rfl⟩, rfl⟩, rfl⟩, (allS_eq a.l a.l rfl fun x hx y => ih x y (h x hx)).2 rfl⟩
theorem vis_deep {w : World} {ok : Nat → Prop} : ∀ (d : Nat) {t : V} {v : Value}, VIs w ok d t v → Dep d t
  | 0, _, _, h => h.elim
  | d + 1, t, v, h => by
    obtain ⟨ks, ls, e, h1, h2, h3, h4, h5⟩ := h
    intro x hx
    obtain ⟨y, hy⟩ := vals_mem h5 hx
    exact vis_deep d hy
open Classical in
theorem rsame_is (w : World) (ok ok' : Nat → Prop) (a b : V) (va vb : Value) (ha : In w ok a va) (hb : In w ok' b vb) :
    Calls Tryz.prog 7 #[va, vb] w fun e w' => e = .returned (.bool (decide (a = b))) ∧ Below w.heap.size w w' := by
  obtain ⟨d, ha⟩ := ha
  obtain ⟨d', hb⟩ := hb
  have h1 := VIs.le (show d ≤ d + d' by omega) ha
  refine (rsame_all (d + d') w _ _ a b va vb h1 (VIs.le (by omega) hb)).mono ?_
  rintro e w' ⟨rfl, hb⟩
  refine ⟨?_, hb⟩
  congr 2
  rw [Bool.eq_iff_iff, sameS_iff _ a b (vis_deep _ h1)]; simp
end Go.Proofs.YtfbddgpekbhpfacGreatDoor

/- What differ of package stairwellref does. -/
set_option linter.unusedSimpArgs false
set_option linter.unusedVariables false
namespace Go.Proofs.YtfbddgpekbhpfacGreatDoor
open Go.RowKit

theorem run_ownS (W : World) (ok : Nat → Prop) (xs : List (List UInt8)) (v : Value) (h : StrsAre W ok xs v) (hl : xs.length ≤ 1000000) (ty : TypeId) :
    ∃ v' W', (Builtin.append_ #[22, 22] ty #[.slice none 0 0, v]).run Tryz.prog W = .ok v' W' ∧ W'.ownsRow W.heap.size 9 1 v' xs.length (xs.map str) ∧ Below W.heap.size W W' := by
  obtain ⟨i0, hi, hz0, hz1, hz2⟩ := info_parts info9
  have some_case : ∀ (ad : Addr) (c : Nat), (∀ j u, (xs.map str)[j]? = some u → W.cell? (ad.add j) = some u) →
      ∃ v' W', (Builtin.append_ #[22, 22] ty #[.slice none 0 0, .slice (some ad) xs.length c]).run Tryz.prog W = .ok v' W' ∧ W'.ownsRow W.heap.size 9 1 v' xs.length (xs.map str) ∧ Below W.heap.size W W' := by
    intro ad c hc
    obtain ⟨v', W', hr, ho, hg, -, -⟩ := run_append_own_at (P := Tryz.prog) W W.heap.size 22 ty 9 i0 _ 1 16 Tryz.underlying22 hi hz0 hz1 hz2 rfl (by decide) (.slice none 0 0) 0 [] (World.ownsRow_nil _ _ _ _) ad xs.length c (xs.map str) (by simp) hc (by intro u hu; simp only [List.mem_map] at hu; obtain ⟨x, -, rfl⟩ := hu; rfl) (by unfold maxLen; omega) (by omega) (Nat.le_refl _)
    exact ⟨v', W', hr, by simpa using ho, gb_none (by simpa [Value.ownBlock] using hg)⟩
  rcases h.2 with ⟨rfl, a, rfl⟩ | ⟨b, off, c, rfl, h1, h2, h3⟩
  · cases a with
    | none => exact ⟨_, _, run_nil_nil W ty, World.ownsRow_nil _ _ _ _, Below.refl _ _⟩
    | some ad => exact some_case ad 0 (by simp)
  · refine some_case ⟨b, off, none⟩ c ?_
    intro j u hj
    rw [addr_add]
    simp only [List.getElem?_map, Option.map_eq_some_iff] at hj
    obtain ⟨x, hx, rfl⟩ := hj
    exact (h3 j x hx).2.2
theorem run_joinS {W : World} {ok : Nat → Prop} {B n : Nat} {v0 : Value} {cs : List Value} (ho : W.ownsRow B 9 1 v0 n cs) {ys : List (List UInt8)} {v : Value} (h : StrsAre W ok ys v) (hn : n ≤ 1000000) (hl : ys.length ≤ 1000000) (hB : B ≤ W.heap.size) (ty : TypeId) :
    ∃ v' W', (Builtin.append_ #[22, 22] ty #[v0, v]).run Tryz.prog W = .ok v' W' ∧ W'.ownsRow B 9 1 v' (n + ys.length) (cs ++ ys.map str) ∧ W.grownBy W' v0.ownBlock := by
  obtain ⟨i0, hi, hz0, hz1, hz2⟩ := info_parts info9
  have some_case : ∀ (ad : Addr) (c : Nat), (∀ j u, (ys.map str)[j]? = some u → W.cell? (ad.add j) = some u) →
      ∃ v' W', (Builtin.append_ #[22, 22] ty #[v0, .slice (some ad) ys.length c]).run Tryz.prog W = .ok v' W' ∧ W'.ownsRow B 9 1 v' (n + ys.length) (cs ++ ys.map str) ∧ W.grownBy W' v0.ownBlock := by
    intro ad c hc
    obtain ⟨v', W', hr, ho, hg, -, -⟩ := run_append_own_at (P := Tryz.prog) W B 22 ty 9 i0 _ 1 16 Tryz.underlying22 hi hz0 hz1 hz2 rfl (by decide) v0 n cs ho ad ys.length c (ys.map str) (by simp) hc (by intro u hu; simp only [List.mem_map] at hu; obtain ⟨x, -, rfl⟩ := hu; rfl) (by unfold maxLen; omega) (by omega) hB
    exact ⟨v', W', hr, ho, hg⟩
  rcases h.2 with ⟨rfl, a, rfl⟩ | ⟨b, off, c, rfl, h1, h2, h3⟩
  · cases a with
    | none => exact ⟨_, _, run_append_owned_none (P := Tryz.prog) W B 22 ty 9 i0 1 Tryz.underlying22 hi v0 n cs ho, by simpa using ho, gb_refl _ _⟩
    | some ad => exact some_case ad 0 (by simp)
  · refine some_case ⟨b, off, none⟩ c ?_
    intro j u hj
    rw [addr_add]
    simp only [List.getElem?_map, Option.map_eq_some_iff] at hj
    obtain ⟨x, hx, rfl⟩ := hj
    exact (h3 j x hx).2.2
theorem strs_in {w : World} {ok : Nat → Prop} {t : V} {k n s ls : Value} {a : Option Addr} {m c : Nat} (h : In w ok t (.agg #[k, n, s, .slice a m c, ls])) : StrsAre w ok t.keys (.slice a m c) := by
  obtain ⟨d, h⟩ := h.at
  obtain ⟨ks, ls, e, -, -, -, h4, -⟩ := h
  simp only [Value.agg.injEq, Array.mk.injEq, List.cons.injEq, and_true] at e
  obtain ⟨-, -, -, rfl, rfl⟩ := e
  exact h4
theorem RM.gb0 {w W W' : World} {ok : Nat → Prop} {v p : V} {a1 a2 a3 a4 : Option Addr} {c1 c2 c3 c4 : Nat} {r : Option Nat} (h : RM w ok v p a1 a2 a3 a4 c1 c2 c3 c4 objT none none 0 0 W) (hg : W.grownBy W' r) (hr : ∀ g, r = some g → w.heap.size + 4 ≤ g) : RM w ok v p a1 a2 a3 a4 c1 c2 c3 c4 objT none none 0 0 W' :=
  ⟨h.1.grown hg (fun e => by have := hr _ e.symm; omega), h.2.1.grown hg (fun e => by have := hr _ e.symm; omega), h.2.2.1.grown hg (fun e => by have := hr _ e.symm; omega), h.2.2.2.1.grown hg (fun e => by have := hr _ e.symm; omega), gb_far h.2.2.2.2.1 hg (fun g e => by have := hr g e; omega), in_leaf _ _ 5 0 (by unfold I64; omega) (by unfold I64; omega), Nat.le_trans h.2.2.2.2.2.2 hg.size⟩
theorem strs_put {w W : World} {xs : List (List UInt8)} {kv d0 d1 d2 d3 d4 : Value} (h : StrsAre W (fun j => w.heap.size + 4 ≤ j) xs kv) : StrsAre (set5 W (w.heap.size + 3) d0 d1 d2 d3 d4) (fun j => w.heap.size + 4 ≤ j) xs kv :=
  h.imp (cells_grown (set5_gb W (w.heap.size + 3) d0 d1 d2 d3 d4) (fun k hk e => by simp at e; omega))
def ROtC (E : Nat) : Prop := ∀ (w : World) (ok : Nat → Prop) (a b : V) (va vb : Value), In w ok a va → In w ok b vb → Nice a → Nice b → Dep E b →
  Calls Tryz.prog 18 #[va, vb] w fun e w' => ∃ r, e = .returned r ∧ Below w.heap.size w w' ∧ In w' (okN ok w.heap.size) (diffF E a b) r
def RD (w : World) (ok : Nat → Prop) (E : Nat) (a b : V) (a1 a2 a3 a4 : Option Addr) (c1 c2 c3 c4 : Nat) (ka : Option Addr) (kc k : Nat) (wr : World) : Prop :=
  ∃ y b1 b2 e1 e2, y = ((a.keys ++ b.keys).take k).foldl (stepF (diffF E) a b) objT ∧ RM w ok a b a1 a2 a3 a4 c1 c2 c3 c4 y b1 b2 e1 e2 wr ∧ StrsAre wr (fun j => w.heap.size + 4 ≤ j) (a.keys ++ b.keys) (.slice ka (a.keys.length + b.keys.length) kc)

attribute [local go_sem ↓] Go.wp_at_zero Go.wp_at_succ
open Classical in
set_option maxRecDepth 100000 in
set_option maxHeartbeats 8000000 in
theorem rother_succ (E : Nat) (ih : ROtC E) : ROtC (E + 1) := by
  intro w ok a b va vb h hp na nb hd
  have Ha := hidI h.low
  have Hb := hidI hp.low
  have NA := hidI na
  have NB := hidI nb
  have HD := hidI hd
  have IH := hidI ih
  obtain ⟨l1, l2, l3⟩ := h.lens
  obtain ⟨l4, l5, l6⟩ := hp.lens
  obtain ⟨a1, a2, c1, c2, rfl⟩ := h.form
  obtain ⟨a3, a4, c3, c4, rfl⟩ := hp.form
  have Ka : Hid (StrsAre w (fun k => ok k ∧ k < w.heap.size) a.keys (.slice a1 a.keys.length c1)) := hidI (strs_in Ha.out)
  have Kb : Hid (StrsAre w (fun k => ok k ∧ k < w.heap.size) b.keys (.slice a3 b.keys.length c3)) := hidI (strs_in Hb.out)
  clear h hp ih na nb hd
  by_cases hk : a.kind = 5 ∧ b.kind = 5
  · obtain ⟨hk1, hk2⟩ := hk
    have e0 : (a.kind != 5) = false := by rw [hk1]; rfl
    have e00 : (b.kind != 5) = false := by rw [hk2]; rfl
    have OA : Hid (Ob a) := hidI (nice_ob NA.out hk1)
    have OB : Hid (Ob b) := hidI (nice_ob NB.out hk2)
    have HM : Hid ((a.keys ++ b.keys).foldl (stepF (diffF E) a b) objT = diffF (E + 1) a b) := hidI (rdiff_eq OA.out OB.out)
    have LA : Hid (a.keys.length ≤ 120) := hidI (by have := nice_len NA.out; have := OA.out.2.2.2.1; omega)
    have LB : Hid (b.keys.length ≤ 120) := hidI (by have := nice_len NB.out; have := OB.out.2.2.2.1; omega)
    have la : a.keys.length ≤ 120 := LA.out
    have lb : b.keys.length ≤ 120 := LB.out
    clear hk1 hk2
    have ST : Hid (RM w ok a b a1 a2 a3 a4 c1 c2 c3 c4 objT none none 0 0 _) := hidI RM.start
    obtain ⟨s0, s1, s2, s3, s4, -⟩ := ST.out.1.c
    obtain ⟨t0, t1, t2, t3, t4, -⟩ := ST.out.2.1.c
    go_enter Tryz.func18, Tryz.ntmps18
    go_upto_region 4 with fail
    refine wp_region_T (fun wS => RM w ok a b a1 a2 a3 a4 c1 c2 c3 c4 objT none none 0 0 wS) [] (by kernel_rfl) (ST.out.bel (bel_drewN _ 1)) (fun hHeld => ?_)
    refine wpAnyT_take (i := 0) (v := ?_) [] (oi := { dst := some 22, op := Go.Op.fieldAddr 25 (Go.Operand.tmp 2) 3, type := 0, pos := "high.go:185", after := #[], guard := none }) rfl (by kernel_rfl) (by kernel_rfl) (by kernel_rfl) (by kernel_rfl) (fun _ _ _ h => h) (Or.inl ⟨by rfl, ?_⟩) hHeld ?_
    rotate_left
    · intro wS hSw
      go_simp
      all_goals with_reducible rfl
    simp only [Act.put, List.setIfInBounds_toArray, List.set_cons_zero, List.set_cons_succ]
    refine wpAnyT_take (i := 1) (v := ?_) [] (oi := { dst := some 23, op := Go.Op.load 22 (Go.Operand.tmp 22), type := 22, pos := "high.go:185", after := #[{ on := 0, ground := Go.Ground.data }], guard := none }) rfl (by kernel_rfl) (by kernel_rfl) (by kernel_rfl) (by kernel_rfl) (fun _ _ _ h => h) (Or.inl ⟨by rfl, ?_⟩) hHeld ?_
    rotate_left
    · intro wS hSw
      obtain ⟨v0, v1, v2, v3, v4, -⟩ := hSw.1.c
      obtain ⟨p0, p1, p2, p3, p4, -⟩ := hSw.2.1.c
      go_simp
      all_goals with_reducible rfl
    simp only [Act.put, List.setIfInBounds_toArray, List.set_cons_zero, List.set_cons_succ]
    refine wpAnyT_take (i := 3) (v := ?_) [] (oi := { dst := some 25, op := Go.Op.fieldAddr 25 (Go.Operand.tmp 3) 3, type := 0, pos := "high.go:185", after := #[], guard := none }) rfl (by kernel_rfl) (by kernel_rfl) (by kernel_rfl) (by kernel_rfl) (fun _ _ _ h => h) (Or.inl ⟨by rfl, ?_⟩) hHeld ?_
    rotate_left
    · intro wS hSw
      go_simp
      all_goals with_reducible rfl
    simp only [Act.put, List.setIfInBounds_toArray, List.set_cons_zero, List.set_cons_succ]
    refine wpAnyT_take (i := 4) (v := ?_) [] (oi := { dst := some 26, op := Go.Op.load 22 (Go.Operand.tmp 25), type := 22, pos := "high.go:185", after := #[{ on := 3, ground := Go.Ground.data }], guard := none }) rfl (by kernel_rfl) (by kernel_rfl) (by kernel_rfl) (by kernel_rfl) (fun _ _ _ h => h) (Or.inl ⟨by rfl, ?_⟩) hHeld ?_
    rotate_left
    · intro wS hSw
      obtain ⟨v0, v1, v2, v3, v4, -⟩ := hSw.1.c
      obtain ⟨p0, p1, p2, p3, p4, -⟩ := hSw.2.1.c
      go_simp
      all_goals with_reducible rfl
    simp only [Act.put, List.setIfInBounds_toArray, List.set_cons_zero, List.set_cons_succ]
    refine wpAnyT_take (i := 7) (v := ?_) [] (oi := { dst := some 29, op := Go.Op.move (Go.Operand.const (Go.Value.int Go.IntKind.i64 0)), type := 3, pos := "high.go:185", after := #[], guard := none }) rfl (by kernel_rfl) (by kernel_rfl) (by kernel_rfl) (by kernel_rfl) (fun _ _ _ h => h) (Or.inl ⟨by rfl, ?_⟩) hHeld ?_
    rotate_left
    · intro wS hSw
      go_simp
      all_goals with_reducible rfl
    simp only [Act.put, List.setIfInBounds_toArray, List.set_cons_zero, List.set_cons_succ]
    refine wpAnyT_ready (rs := [2]) (by kernel_rfl) (by simp) ?_
    refine AllReadyT.cons (i := 2) (o := { dst := some 24, op := Go.Op.call { callee := Go.Callee.builtin Go.Builtin.append, args := #[Go.Operand.const (Go.Value.slice none 0 0), Go.Operand.tmp 23], argTypes := #[22, 22] }, type := 22, pos := "high.go:185", after := #[{ on := 1, ground := Go.Ground.data }], guard := none }) rfl (fun K hK => ?_) ?_
    · have SA := hidI (Ka.out.bel hHeld.2.2.2.2.1)
      refine step_run (by rfl) (.const (.slice none 0 0)) (.tmp 23) 22 (by rfl) _ _ rfl rfl _ (fun ty => run_ownS _ _ a.keys _ SA.out (by omega) ty) (fun v9 W9 hR => ?_)
      obtain ⟨hown, hb9⟩ := hR
      have OW := hidI hown
      have HS9 := hidI hHeld.2.2.2.2.2.2
      refine hK.out _ _ (hHeld.bel hb9) (fun hHeld2 => ?_)
      have SZ := hidI hb9.size
      clear hown hb9
      clear hK K
      replace hHeld := hHeld2
      clear hHeld2
      try simp only [Act.put, List.setIfInBounds_toArray, List.set_cons_zero, List.set_cons_succ]
      refine wpAnyT_ready (rs := [5]) (by kernel_rfl) (by simp) ?_
      refine AllReadyT.cons (i := 5) (o := { dst := some 27, op := Go.Op.call { callee := Go.Callee.builtin Go.Builtin.append, args := #[Go.Operand.tmp 24, Go.Operand.tmp 26], argTypes := #[22, 22] }, type := 22, pos := "high.go:185", after := #[{ on := 2, ground := Go.Ground.data }, { on := 4, ground := Go.Ground.data }, { on := 2, ground := Go.Ground.chain }], guard := none }) rfl (fun K hK => ?_) ?_
      · have SB := hidI (Kb.out.bel hHeld.2.2.2.2.1)
        refine step_run (by rfl) (.tmp 24) (.tmp 26) 22 (by rfl) _ _ rfl rfl _ (fun ty => run_joinS OW.out SB.out (by omega) (by omega) (by exact SZ.out) ty) (fun v8 W8 hR => ?_)
        obtain ⟨hown, hg8⟩ := hR
        have OW2 := hidI hown
        refine hK.out _ _ (hHeld.gb0 hg8 (fun g e => Nat.le_trans HS9.out ((OW.out.lt g e).1))) (fun hHeld2 => ?_)
        obtain ⟨ka, kc, rfl⟩ := own_form hown
        clear hown hg8
        clear hK K
        replace hHeld := hHeld2
        clear hHeld2
        try simp only [Act.put, List.setIfInBounds_toArray, List.set_cons_zero, List.set_cons_succ]
        refine wpAnyT_take (i := 6) (v := ?_) [] (oi := { dst := some 28, op := Go.Op.call { callee := Go.Callee.builtin Go.Builtin.len, args := #[Go.Operand.tmp 27], argTypes := #[22] }, type := 3, pos := "high.go:185", after := #[{ on := 5, ground := Go.Ground.data }], guard := none }) rfl (by kernel_rfl) (by kernel_rfl) (by kernel_rfl) (by kernel_rfl) (fun _ _ _ h => h) (Or.inl ⟨by rfl, ?_⟩) hHeld ?_
        rotate_left
        · intro wS hSw
          go_simp
          all_goals with_reducible rfl
        simp only [Act.put, List.setIfInBounds_toArray, List.set_cons_zero, List.set_cons_succ]
        refine wpAnyT_done (by kernel_rfl) ?_ _
        have I0 : Hid _ := hidI hHeld
        clear hHeld
        have KS : Hid (StrsAre W8 (fun j => w.heap.size + 4 ≤ j) (a.keys ++ b.keys) (.slice ka (a.keys.length + b.keys.length) kc)) := hidI (own_strs (n := a.keys.length + b.keys.length) (by simp) (by rw [List.map_append]; exact OW2.out) (fun z hz => (List.mem_append.1 hz).elim (fun h => Ka.out.mem z h) (fun h => Kb.out.mem z h)) (fun j hj => Nat.le_trans HS9.out hj) (by simp only [List.length_append]; unfold maxLen; omega))
        clear OW OW2 SA SB SZ HS9
        go_wp2_with fail
        go_loopg [29] (a.keys.length + b.keys.length) (fun gk i wr => ∃ k : Nat, k ≤ a.keys.length + b.keys.length ∧ gk = a.keys.length + b.keys.length - k ∧ i = .int .i64 k ∧ RD w ok E a b a1 a2 a3 a4 c1 c2 c3 c4 ka kc k wr)
        case atStart => exact ⟨0, Nat.zero_le _, rfl, rfl, objT, none, none, 0, 0, rfl, I0.out, KS.out⟩
        case round =>
          clear s0 s1 s2 s3 s4 t0 t1 t2 t3 t4 ST I0 KS
          obtain ⟨k, hk, hgk, rfl, y, b1, b2, e1', e2', hy, hI, hks⟩ := hrel
          have GK := hidI hgk
          have I := hidI hI
          have HY := hidI hy
          have KS := hidI hks
          clear hgk hI hy hks
          obtain ⟨s0, s1, s2, s3, s4, -⟩ := I.out.1.c
          obtain ⟨t0, t1, t2, t3, t4, -⟩ := I.out.2.1.c
          by_cases hlt : k < a.keys.length + b.keys.length
          · have hlt' : k < (a.keys ++ b.keys).length := by simpa using hlt
            obtain ⟨kb, ko, rfl, j1, j2, jk⟩ := strs_at KS.out hlt'
            unfold maxLen at j2
            have jl : ((a.keys ++ b.keys)[k]).length ≤ 9223372036854775807 := by
              rcases List.mem_append.1 (List.getElem_mem hlt') with h | h
              · exact Ka.out.mem _ h
              · exact Kb.out.mem _ h
            have w1 : (0 : Int) ≤ (k : Int) := by omega
            have w3 : (k : Int) < ((a.keys.length + b.keys.length : Nat) : Int) := by omega
            have w4 : (k : Int) < (a.keys.length : Int) + (b.keys.length : Int) := by omega
            have OY : Hid (Ob y) := hidI (by rw [HY.out]; exact foldF_ob _ a b _ _ ob_objT)
            have LY : Hid (y.l.length ≤ 240) := hidI (by
              rw [HY.out]
              have h1 := foldF_len (diffF E) a b ((a.keys ++ b.keys).take k) objT
              have h2 : ((a.keys ++ b.keys).take k).length ≤ a.keys.length + b.keys.length := by rw [List.length_take, List.length_append]; omega
              have h3 : objT.l.length = 0 := rfl
              have := LA.out
              have := LB.out
              omega)
            have SF : Hid (∀ u, u = stepF (diffF E) a b y (a.keys ++ b.keys)[k] → u = ((a.keys ++ b.keys).take (k + 1)).foldl (stepF (diffF E) a b) objT) := hidI (by
              intro u hu
              rw [hu, HY.out, List.take_add_one, List.getElem?_eq_getElem hlt', List.foldl_append]; rfl)
            go_wp2_with fail
            refine (rmember_is _ (fun k => ok k ∧ k < w.heap.size) a _ (a.keys ++ b.keys)[k] (by exact Ha.out.bel I.out.2.2.2.2.1)).mono ?_
            rintro e w4 ⟨r, rfl, hb4, hr⟩
            obtain ⟨x, hx⟩ : ∃ x, (memV a (a.keys ++ b.keys)[k]).getD zeroT = x := ⟨_, rfl⟩
            rw [hx] at hr
            obtain ⟨g3, g4, h3, h4, rfl⟩ := hr.form
            have hbb := bel_trans hb4 (bel_alloc w4 (.cells #[.int .i64 x.kind, .int .i64 x.n, .string ⟨x.s.toArray⟩, .slice g3 x.keys.length h3, .slice g4 x.l.length h4] 25))
            have K := hidI (I.out.bel hbb)
            have KX : Hid (BoxIs (w4.alloc (.cells #[.int .i64 x.kind, .int .i64 x.n, .string ⟨x.s.toArray⟩, .slice g3 x.keys.length h3, .slice g4 x.l.length h4] 25)) w4.heap.size (.int .i64 x.kind) (.int .i64 x.n) (.string ⟨x.s.toArray⟩) (.slice g3 x.keys.length h3) (.slice g4 x.l.length h4) ∧ In (w4.alloc (.cells #[.int .i64 x.kind, .int .i64 x.n, .string ⟨x.s.toArray⟩, .slice g3 x.keys.length h3, .slice g4 x.l.length h4] 25)) (lowN ok w.heap.size (w.heap.size + 4)) x (.agg #[.int .i64 x.kind, .int .i64 x.n, .string ⟨x.s.toArray⟩, .slice g3 x.keys.length h3, .slice g4 x.l.length h4])) := hidI ⟨heap_alloc_new w4 _, (hr.bel (bel_alloc _ _)).weak lowN_low⟩
            have KS4 := hidI (KS.out.bel hbb)
            have NX : Hid (Nice x) := hidI (by rw [← hx]; exact nice_old NA.out _)
            have HX := hidI hx
            clear hx hr hb4 hbb s0 s1 s2 s3 s4 t0 t1 t2 t3 t4 jk KS
            obtain ⟨t0, t1, t2, t3, t4, -⟩ := K.out.2.1.c
            go_wp2_with fail
            refine (rmember_is _ (fun k => ok k ∧ k < w.heap.size) b _ (a.keys ++ b.keys)[k] (by exact Hb.out.bel K.out.2.2.2.2.1)).mono ?_
            rintro e w5 ⟨r, rfl, hb5, hr⟩
            obtain ⟨q, hq⟩ : ∃ q, (memV b (a.keys ++ b.keys)[k]).getD zeroT = q := ⟨_, rfl⟩
            rw [hq] at hr
            obtain ⟨g5, g6, h5, h6, rfl⟩ := hr.form
            have hbb := bel_trans hb5 (bel_alloc w5 (.cells #[.int .i64 q.kind, .int .i64 q.n, .string ⟨q.s.toArray⟩, .slice g5 q.keys.length h5, .slice g6 q.l.length h6] 25))
            have M : Hid (RM w ok a b a1 a2 a3 a4 c1 c2 c3 c4 y b1 b2 e1' e2' (w5.alloc (.cells #[.int .i64 q.kind, .int .i64 q.n, .string ⟨q.s.toArray⟩, .slice g5 q.keys.length h5, .slice g6 q.l.length h6] 25)) ∧ BoxIs (w5.alloc (.cells #[.int .i64 q.kind, .int .i64 q.n, .string ⟨q.s.toArray⟩, .slice g5 q.keys.length h5, .slice g6 q.l.length h6] 25)) w4.heap.size (.int .i64 x.kind) (.int .i64 x.n) (.string ⟨x.s.toArray⟩) (.slice g3 x.keys.length h3) (.slice g4 x.l.length h4) ∧ BoxIs (w5.alloc (.cells #[.int .i64 q.kind, .int .i64 q.n, .string ⟨q.s.toArray⟩, .slice g5 q.keys.length h5, .slice g6 q.l.length h6] 25)) w5.heap.size (.int .i64 q.kind) (.int .i64 q.n) (.string ⟨q.s.toArray⟩) (.slice g5 q.keys.length h5) (.slice g6 q.l.length h6) ∧ In (w5.alloc (.cells #[.int .i64 q.kind, .int .i64 q.n, .string ⟨q.s.toArray⟩, .slice g5 q.keys.length h5, .slice g6 q.l.length h6] 25)) (lowN ok w.heap.size (w.heap.size + 4)) x (.agg #[.int .i64 x.kind, .int .i64 x.n, .string ⟨x.s.toArray⟩, .slice g3 x.keys.length h3, .slice g4 x.l.length h4]) ∧ In (w5.alloc (.cells #[.int .i64 q.kind, .int .i64 q.n, .string ⟨q.s.toArray⟩, .slice g5 q.keys.length h5, .slice g6 q.l.length h6] 25)) (lowN ok w.heap.size (w.heap.size + 4)) q (.agg #[.int .i64 q.kind, .int .i64 q.n, .string ⟨q.s.toArray⟩, .slice g5 q.keys.length h5, .slice g6 q.l.length h6])) := hidI ⟨K.out.bel hbb, box_bel hbb KX.out.1, heap_alloc_new w5 _, KX.out.2.bel hbb, (hr.bel (bel_alloc _ _)).weak lowN_low⟩
            have KS := hidI (KS4.out.bel hbb)
            have NQ : Hid (Nice q) := hidI (by rw [← hq]; exact nice_old NB.out _)
            have HQ := hidI hq
            clear hq hr hb5 hbb t0 t1 t2 t3 t4 K KX KS4
            obtain ⟨o0, o1, o2, o3, o4, f0, f1, f2, f3, f4⟩ := M.out.1.2.2.2.1.c
            cases hmb : memV b (a.keys ++ b.keys)[k] with
            | none =>
              have HMB := hidI hmb
              have eb : (memV b (a.keys ++ b.keys)[k]).isSome = false := by rw [hmb]; rfl
              have FIN : Hid (∀ u, u = withV y (a.keys ++ b.keys)[k] zeroT → ∀ (W : World) (g1 g2 : Option Addr) (h1 h2 : Nat), RM w ok a b a1 a2 a3 a4 c1 c2 c3 c4 y b1 b2 e1' e2' W → In W (lowN ok w.heap.size (w.heap.size + 4)) u (.agg #[.int .i64 u.kind, .int .i64 u.n, .string ⟨u.s.toArray⟩, .slice g1 u.keys.length h1, .slice g2 u.l.length h2]) → StrsAre W (fun j => w.heap.size + 4 ≤ j) (a.keys ++ b.keys) (.slice (some ⟨kb, ko, none⟩) (a.keys.length + b.keys.length) kc) → RD w ok E a b a1 a2 a3 a4 c1 c2 c3 c4 (some ⟨kb, ko, none⟩) kc (k + 1) (set5 W (w.heap.size + 3) (.int .i64 u.kind) (.int .i64 u.n) (.string ⟨u.s.toArray⟩) (.slice g1 u.keys.length h1) (.slice g2 u.l.length h2))) := hidI (by
                intro u hu W g1 g2 h1 h2 hW hI hS
                exact ⟨u, g1, g2, h1, h2, SF.out u (by rw [hu, stepF, HMB.out]), hW.put hI, strs_put hS⟩)
              clear hmb
              go_wp2_with fail
              refine (rwith_is _ (lowN ok w.heap.size (w.heap.size + 4)) y zeroT _ _ (a.keys ++ b.keys)[k] (by exact M.out.1.2.2.2.2.2.1) (by exact in_zero _ _) OY.out (by have := LY.out; omega) jl).mono ?_
              rintro e w6 ⟨r, rfl, hr, hb⟩
              obtain ⟨u, hu⟩ : ∃ u, withV y (a.keys ++ b.keys)[k] zeroT = u := ⟨_, rfl⟩
              rw [hu] at hr
              obtain ⟨g1, g2, h1, h2, rfl⟩ := hr.form
              have F : Hid _ := hidI (FIN.out u hu.symm w6 g1 g2 h1 h2 (M.out.1.bel hb) (hr.weak (lowN_up M.out.1.2.2.2.2.2.2)) (KS.out.bel hb))
              have O6 := hidI (box_bel hb M.out.1.2.2.2.1)
              clear hu hr hb o0 o1 o2 o3 o4 f0 f1 f2 f3 f4
              obtain ⟨o0, o1, o2, o3, o4, f0, f1, f2, f3, f4⟩ := O6.out.c
              go_wp2_with fail
              go_roundg (a.keys.length + b.keys.length - (k + 1))
              case measure => rw [GK.out]; omega
              case rel => exact ⟨k + 1, hlt, rfl, by go_num, F.out⟩
            | some yy =>
              have HMB := hidI hmb
              have eb : (memV b (a.keys ++ b.keys)[k]).isSome = true := by rw [hmb]; rfl
              have QE : Hid (q = yy) := hidI (by rw [← HQ.out, hmb]; rfl)
              have DQ : Hid (Dep E q) := hidI (by rw [QE.out]; exact HD.out _ (mem_in hmb))
              clear hmb
              cases hma : memV a (a.keys ++ b.keys)[k] with
              | none =>
                have HMA := hidI hma
                have ea : (memV a (a.keys ++ b.keys)[k]).isSome = false := by rw [hma]; rfl
                have FIN : Hid (∀ u, u = withV y (a.keys ++ b.keys)[k] q → ∀ (W : World) (g1 g2 : Option Addr) (h1 h2 : Nat), RM w ok a b a1 a2 a3 a4 c1 c2 c3 c4 y b1 b2 e1' e2' W → In W (lowN ok w.heap.size (w.heap.size + 4)) u (.agg #[.int .i64 u.kind, .int .i64 u.n, .string ⟨u.s.toArray⟩, .slice g1 u.keys.length h1, .slice g2 u.l.length h2]) → StrsAre W (fun j => w.heap.size + 4 ≤ j) (a.keys ++ b.keys) (.slice (some ⟨kb, ko, none⟩) (a.keys.length + b.keys.length) kc) → RD w ok E a b a1 a2 a3 a4 c1 c2 c3 c4 (some ⟨kb, ko, none⟩) kc (k + 1) (set5 W (w.heap.size + 3) (.int .i64 u.kind) (.int .i64 u.n) (.string ⟨u.s.toArray⟩) (.slice g1 u.keys.length h1) (.slice g2 u.l.length h2))) := hidI (by
                  intro u hu W g1 g2 h1 h2 hW hI hS
                  exact ⟨u, g1, g2, h1, h2, SF.out u (by rw [hu, stepF, HMB.out, HMA.out, QE.out]), hW.put hI, strs_put hS⟩)
                clear hma
                obtain ⟨q0, q1, q2, q3, q4, -⟩ := M.out.2.2.1.c
                go_wp2_with fail
                refine (rwith_is _ (lowN ok w.heap.size (w.heap.size + 4)) y q _ _ (a.keys ++ b.keys)[k] (by exact M.out.1.2.2.2.2.2.1) (by exact M.out.2.2.2.2) OY.out (by have := LY.out; omega) jl).mono ?_
                rintro e w6 ⟨r, rfl, hr, hb⟩
                obtain ⟨u, hu⟩ : ∃ u, withV y (a.keys ++ b.keys)[k] q = u := ⟨_, rfl⟩
                rw [hu] at hr
                obtain ⟨g1, g2, h1, h2, rfl⟩ := hr.form
                have F : Hid _ := hidI (FIN.out u hu.symm w6 g1 g2 h1 h2 (M.out.1.bel hb) (hr.weak (lowN_up M.out.1.2.2.2.2.2.2)) (KS.out.bel hb))
                have O6 := hidI (box_bel hb M.out.1.2.2.2.1)
                clear hu hr hb o0 o1 o2 o3 o4 f0 f1 f2 f3 f4 q0 q1 q2 q3 q4
                obtain ⟨o0, o1, o2, o3, o4, f0, f1, f2, f3, f4⟩ := O6.out.c
                go_wp2_with fail
                go_roundg (a.keys.length + b.keys.length - (k + 1))
                case measure => rw [GK.out]; omega
                case rel => exact ⟨k + 1, hlt, rfl, by go_num, F.out⟩
              | some xx =>
                have HMA := hidI hma
                have ea : (memV a (a.keys ++ b.keys)[k]).isSome = true := by rw [hma]; rfl
                have XE : Hid (x = xx) := hidI (by rw [← HX.out, hma]; rfl)
                clear hma
                obtain ⟨q0, q1, q2, q3, q4, -⟩ := M.out.2.2.1.c
                obtain ⟨x0, x1, x2, x3, x4, -⟩ := M.out.2.1.c
                go_wp2_with fail
                refine (rsame_is _ (lowN ok w.heap.size (w.heap.size + 4)) (lowN ok w.heap.size (w.heap.size + 4)) x q _ _ (by exact M.out.2.2.2.1) (by exact M.out.2.2.2.2)).mono ?_
                rintro e w6 ⟨rfl, hb⟩
                have M6 : Hid (RM w ok a b a1 a2 a3 a4 c1 c2 c3 c4 y b1 b2 e1' e2' w6 ∧ BoxIs w6 w4.heap.size (.int .i64 x.kind) (.int .i64 x.n) (.string ⟨x.s.toArray⟩) (.slice g3 x.keys.length h3) (.slice g4 x.l.length h4) ∧ BoxIs w6 w5.heap.size (.int .i64 q.kind) (.int .i64 q.n) (.string ⟨q.s.toArray⟩) (.slice g5 q.keys.length h5) (.slice g6 q.l.length h6) ∧ In w6 (lowN ok w.heap.size (w.heap.size + 4)) x (.agg #[.int .i64 x.kind, .int .i64 x.n, .string ⟨x.s.toArray⟩, .slice g3 x.keys.length h3, .slice g4 x.l.length h4]) ∧ In w6 (lowN ok w.heap.size (w.heap.size + 4)) q (.agg #[.int .i64 q.kind, .int .i64 q.n, .string ⟨q.s.toArray⟩, .slice g5 q.keys.length h5, .slice g6 q.l.length h6])) := hidI ⟨M.out.1.bel hb, box_bel hb M.out.2.1, box_bel hb M.out.2.2.1, M.out.2.2.2.1.bel hb, M.out.2.2.2.2.bel hb⟩
                replace KS := hidI (KS.out.bel hb)
                clear hb M o0 o1 o2 o3 o4 f0 f1 f2 f3 f4 q0 q1 q2 q3 q4 x0 x1 x2 x3 x4
                by_cases hxq : x = q
                · have FIN : Hid (RD w ok E a b a1 a2 a3 a4 c1 c2 c3 c4 (some ⟨kb, ko, none⟩) kc (k + 1) w6) := hidI ⟨y, b1, b2, e1', e2', SF.out y (by rw [stepF, HMB.out, HMA.out]; simp only; rw [if_pos (by rw [← XE.out, ← QE.out]; exact hxq)]), M6.out.1, KS.out⟩
                  have ed : decide (x = q) = true := decide_eq_true hxq
                  rw [ed]
                  clear hxq ed
                  go_wp2_with fail
                  go_roundg (a.keys.length + b.keys.length - (k + 1))
                  case measure => rw [GK.out]; omega
                  case rel => exact ⟨k + 1, hlt, rfl, by go_num, FIN.out⟩
                · have FIN : Hid (∀ z u, diffF E x q = z → u = withV y (a.keys ++ b.keys)[k] z → ∀ (W : World) (g1 g2 : Option Addr) (h1 h2 : Nat), RM w ok a b a1 a2 a3 a4 c1 c2 c3 c4 y b1 b2 e1' e2' W → In W (lowN ok w.heap.size (w.heap.size + 4)) u (.agg #[.int .i64 u.kind, .int .i64 u.n, .string ⟨u.s.toArray⟩, .slice g1 u.keys.length h1, .slice g2 u.l.length h2]) → StrsAre W (fun j => w.heap.size + 4 ≤ j) (a.keys ++ b.keys) (.slice (some ⟨kb, ko, none⟩) (a.keys.length + b.keys.length) kc) → RD w ok E a b a1 a2 a3 a4 c1 c2 c3 c4 (some ⟨kb, ko, none⟩) kc (k + 1) (set5 W (w.heap.size + 3) (.int .i64 u.kind) (.int .i64 u.n) (.string ⟨u.s.toArray⟩) (.slice g1 u.keys.length h1) (.slice g2 u.l.length h2))) := hidI (by
                    intro z u hz hu W g1 g2 h1 h2 hW hI hS
                    exact ⟨u, g1, g2, h1, h2, SF.out u (by rw [hu, ← hz, stepF, HMB.out, HMA.out]; simp only; rw [if_neg (by rw [← XE.out, ← QE.out]; exact hxq), XE.out, QE.out]), hW.put hI, strs_put hS⟩)
                  have ed : decide (x = q) = false := decide_eq_false hxq
                  rw [ed]
                  clear hxq ed
                  go_upto_region 14 with fail
                  refine wp_region_T (fun wS => RM w ok a b a1 a2 a3 a4 c1 c2 c3 c4 y b1 b2 e1' e2' wS ∧ BoxIs wS w4.heap.size (.int .i64 x.kind) (.int .i64 x.n) (.string ⟨x.s.toArray⟩) (.slice g3 x.keys.length h3) (.slice g4 x.l.length h4) ∧ BoxIs wS w5.heap.size (.int .i64 q.kind) (.int .i64 q.n) (.string ⟨q.s.toArray⟩) (.slice g5 q.keys.length h5) (.slice g6 q.l.length h6) ∧ In wS (lowN ok w.heap.size (w.heap.size + 4)) x (.agg #[.int .i64 x.kind, .int .i64 x.n, .string ⟨x.s.toArray⟩, .slice g3 x.keys.length h3, .slice g4 x.l.length h4]) ∧ In wS (lowN ok w.heap.size (w.heap.size + 4)) q (.agg #[.int .i64 q.kind, .int .i64 q.n, .string ⟨q.s.toArray⟩, .slice g5 q.keys.length h5, .slice g6 q.l.length h6])) [6] (by kernel_rfl) ⟨M6.out.1.bel (bel_drewN _ 1), box_bel (bel_drewN _ 1) M6.out.2.1, box_bel (bel_drewN _ 1) M6.out.2.2.1, M6.out.2.2.2.1.bel (bel_drewN _ 1), M6.out.2.2.2.2.bel (bel_drewN _ 1)⟩ (fun hHeld => ?_)
                  replace KS := hidI (KS.out.bel (bel_drewN _ 1))
                  refine wpAnyT_take (i := 0) (v := ?_) [5, 6] (oi := { dst := some 64, op := Go.Op.load 25 (Go.Operand.tmp 5), type := 25, pos := "high.go:194", after := #[], guard := none }) rfl (by kernel_rfl) (by kernel_rfl) (by kernel_rfl) (by kernel_rfl) (fun _ _ _ h => h) (Or.inl ⟨by rfl, ?_⟩) hHeld ?_
                  rotate_left
                  · intro wS hSw
                    obtain ⟨y0, y1, y2, y3, y4, -⟩ := hSw.1.2.2.2.1.c
                    obtain ⟨x0, x1, x2, x3, x4, -⟩ := hSw.2.1.c
                    obtain ⟨q0, q1, q2, q3, q4, -⟩ := hSw.2.2.1.c
                    go_simp
                    all_goals with_reducible rfl
                  simp only [Act.put, List.setIfInBounds_toArray, List.set_cons_zero, List.set_cons_succ]
                  refine wpAnyT_take (i := 1) (v := ?_) [5, 6] (oi := { dst := some 65, op := Go.Op.move (Go.Operand.tmp 7), type := 9, pos := "high.go:194", after := #[], guard := none }) rfl (by kernel_rfl) (by kernel_rfl) (by kernel_rfl) (by kernel_rfl) (fun _ _ _ h => h) (Or.inl ⟨by rfl, ?_⟩) hHeld ?_
                  rotate_left
                  · intro wS hSw
                    go_simp
                    all_goals with_reducible rfl
                  simp only [Act.put, List.setIfInBounds_toArray, List.set_cons_zero, List.set_cons_succ]
                  refine wpAnyT_take (i := 2) (v := ?_) [4, 5, 6] (oi := { dst := some 66, op := Go.Op.load 25 (Go.Operand.tmp 8), type := 25, pos := "high.go:194", after := #[], guard := none }) rfl (by kernel_rfl) (by kernel_rfl) (by kernel_rfl) (by kernel_rfl) (fun _ _ _ h => h) (Or.inl ⟨by rfl, ?_⟩) hHeld ?_
                  rotate_left
                  · intro wS hSw
                    obtain ⟨y0, y1, y2, y3, y4, -⟩ := hSw.1.2.2.2.1.c
                    obtain ⟨x0, x1, x2, x3, x4, -⟩ := hSw.2.1.c
                    obtain ⟨q0, q1, q2, q3, q4, -⟩ := hSw.2.2.1.c
                    go_simp
                    all_goals with_reducible rfl
                  simp only [Act.put, List.setIfInBounds_toArray, List.set_cons_zero, List.set_cons_succ]
                  refine wpAnyT_take (i := 3) (v := ?_) [4, 5, 6] (oi := { dst := some 67, op := Go.Op.load 25 (Go.Operand.tmp 10), type := 25, pos := "high.go:194", after := #[], guard := none }) rfl (by kernel_rfl) (by kernel_rfl) (by kernel_rfl) (by kernel_rfl) (fun _ _ _ h => h) (Or.inl ⟨by rfl, ?_⟩) hHeld ?_
                  rotate_left
                  · intro wS hSw
                    obtain ⟨y0, y1, y2, y3, y4, -⟩ := hSw.1.2.2.2.1.c
                    obtain ⟨x0, x1, x2, x3, x4, -⟩ := hSw.2.1.c
                    obtain ⟨q0, q1, q2, q3, q4, -⟩ := hSw.2.2.1.c
                    go_simp
                    all_goals with_reducible rfl
                  simp only [Act.put, List.setIfInBounds_toArray, List.set_cons_zero, List.set_cons_succ]
                  refine wpAnyT_ready (rs := [4]) (by kernel_rfl) (by simp) ?_
                  refine AllReadyT.cons (i := 4) (o := { dst := some 68, op := Go.Op.call { callee := Go.Callee.value (Go.Operand.func 18), args := #[Go.Operand.tmp 66, Go.Operand.tmp 67], argTypes := #[25, 25] }, type := 25, pos := "high.go:194", after := #[{ on := 2, ground := Go.Ground.data }, { on := 3, ground := Go.Ground.data }], guard := none }) rfl (fun K hK => ?_) ?_
                  · go_simp
                    refine (IH.out _ (lowN ok w.heap.size (w.heap.size + 4)) x q _ _ (by exact hHeld.2.2.2.1) (by exact hHeld.2.2.2.2) NX.out NQ.out DQ.out).mono ?_
                    rintro e w4q ⟨r, rfl, hb, hr⟩
                    obtain ⟨z, hz⟩ : ∃ z, diffF E x q = z := ⟨_, rfl⟩
                    rw [hz] at hr
                    have ZZ := hidI (hr.weak (lowN_up hHeld.1.2.2.2.2.2.2))
                    have HZ := hidI hz
                    refine hK.out _ _ (⟨hHeld.1.bel hb, box_bel hb hHeld.2.1, box_bel hb hHeld.2.2.1, hHeld.2.2.2.1.bel hb, hHeld.2.2.2.2.bel hb⟩) (fun hHeld2 => ?_)
                    replace KS := hidI (KS.out.bel hb)
                    clear hz hr hb
                    clear hK K
                    replace hHeld := hHeld2
                    clear hHeld2
                    try simp only [Act.put, List.setIfInBounds_toArray, List.set_cons_zero, List.set_cons_succ]
                    refine wpAnyT_ready (rs := [5]) (by kernel_rfl) (by simp) ?_
                    refine AllReadyT.cons (i := 5) (o := { dst := some 69, op := Go.Op.call { callee := Go.Callee.value (Go.Operand.func 28), args := #[Go.Operand.tmp 64, Go.Operand.tmp 65, Go.Operand.tmp 68], argTypes := #[25, 9, 25] }, type := 25, pos := "high.go:194", after := #[{ on := 0, ground := Go.Ground.data }, { on := 1, ground := Go.Ground.data }, { on := 4, ground := Go.Ground.data }, { on := 4, ground := Go.Ground.chain }], guard := none }) rfl (fun K hK => ?_) ?_
                    · go_simp
                      refine (rwith_is _ (lowN ok w.heap.size (w.heap.size + 4)) y z _ _ (a.keys ++ b.keys)[k] (by exact hHeld.1.2.2.2.2.2.1) (by exact ZZ.out) OY.out (by have := LY.out; omega) jl).mono ?_
                      rintro e w5q ⟨r2, rfl, hr2, hb⟩
                      obtain ⟨u, hu⟩ : ∃ u, withV y (a.keys ++ b.keys)[k] z = u := ⟨_, rfl⟩
                      rw [hu] at hr2
                      obtain ⟨g1, g2, h1, h2, rfl⟩ := hr2.form
                      have U : Hid (In w5q (lowN ok w.heap.size (w.heap.size + 4)) u (.agg #[.int .i64 u.kind, .int .i64 u.n, .string ⟨u.s.toArray⟩, .slice g1 u.keys.length h1, .slice g2 u.l.length h2])) := hidI (hr2.weak (lowN_up hHeld.1.2.2.2.2.2.2))
                      have HU := hidI hu
                      refine hK.out _ _ (⟨hHeld.1.bel hb, box_bel hb hHeld.2.1, box_bel hb hHeld.2.2.1, hHeld.2.2.2.1.bel hb, hHeld.2.2.2.2.bel hb⟩) (fun hHeld2 => ?_)
                      replace KS := hidI (KS.out.bel hb)
                      clear hu hr2 hb
                      clear hK K
                      replace hHeld := hHeld2
                      clear hHeld2
                      try simp only [Act.put, List.setIfInBounds_toArray, List.set_cons_zero, List.set_cons_succ]
                      obtain ⟨o0, o1, o2, o3, o4, f0, f1, f2, f3, f4⟩ := hHeld.1.2.2.2.1.c
                      have HE := hidI hHeld
                      clear hHeld
                      refine wpAnyT_last (i := 6) (o := { dst := none, op := Go.Op.store 25 (Go.Operand.tmp 5) (Go.Operand.tmp 69), type := 0, pos := "high.go:194", after := #[{ on := 5, ground := Go.Ground.data }, { on := 5, ground := Go.Ground.chain }, { on := 0, ground := Go.Ground.phase }, { on := 1, ground := Go.Ground.phase }, { on := 2, ground := Go.Ground.phase }, { on := 3, ground := Go.Ground.phase }, { on := 4, ground := Go.Ground.phase }, { on := 5, ground := Go.Ground.phase }], guard := none }) (by kernel_rfl) (by rfl) rfl (fun K hK => ?_)
                      go_simp
                      refine hK.out _ _ ?_
                      clear hK K
                      try simp only [Act.put, List.setIfInBounds_toArray, List.set_cons_zero, List.set_cons_succ]
                      refine wpAnyT_done (by kernel_rfl) ?_ _
                      go_wp2_with fail
                      go_roundg (a.keys.length + b.keys.length - (k + 1))
                      case measure => rw [GK.out]; omega
                      case rel => exact ⟨k + 1, hlt, rfl, by go_num, FIN.out z u HZ.out HU.out.symm _ _ _ _ _ HE.out.1 U.out KS.out⟩
                    exact AllReadyT.nil
                  exact AllReadyT.nil
          · have hke : k = a.keys.length + b.keys.length := by omega
            have HF : Hid (diffF (E + 1) a b = y) := hidI (by rw [← HM.out, HY.out, List.take_of_length_le (by rw [List.length_append]; omega)])
            have d1 : ¬ (k : Int) < ((a.keys.length + b.keys.length : Nat) : Int) := by omega
            have d2 : ¬ (k : Int) < (a.keys.length : Int) + (b.keys.length : Int) := by omega
            obtain ⟨y0, y1, y2, y3, y4, -⟩ := I.out.2.2.2.1.c
            obtain ⟨z0, z1, z2, z3, z4, z5, z6, z7, z8, z9⟩ := I.out.2.2.1.c
            have Z : Hid (_ ∧ _) := hidI (sto_out (g := w.heap.size + 2) I.out.2.2.2.2.2.1 I.out.2.2.2.2.1 (by omega) (by omega))
            have ZB : Hid _ := hidI (I.out.2.2.1.set (.int .i64 y.kind) (.int .i64 y.n) (.string ⟨y.s.toArray⟩) (.slice b1 y.keys.length e1') (.slice b2 y.l.length e2'))
            clear hke
            go_wp2_with fail
            obtain ⟨q0, q1, q2, q3, q4, -⟩ := ZB.out.c
            refine bodyPost_ret (v := .agg #[.int .i64 y.kind, .int .i64 y.n, .string ⟨y.s.toArray⟩, .slice b1 y.keys.length e1', .slice b2 y.l.length e2']) ?_ rfl ?_
            · simp only [set5] at q0 q1 q2 q3 q4
              simp [results, Tryz.results18, go_sem, q0, q1, q2, q3, q4]
            · exact ⟨_, rfl, Z.out.1, by rw [HF.out]; exact Z.out.2⟩
      exact AllReadyT.nil
    exact AllReadyT.nil
  · have e0 : ((a.kind != 5) || (b.kind != 5)) = true := by
      rw [Bool.or_eq_true, bne_iff_ne, bne_iff_ne]
      by_cases h1 : a.kind = 5
      · exact .inr fun h2 => hk ⟨h1, h2⟩
      · exact .inl h1
    have HM : Hid (diffF (E + 1) a b = b) := hidI (by rw [diffF, if_neg hk])
    have B3 : Hid (∀ o1 o2 o3, Below w.heap.size w (((w.alloc o1).alloc o2).alloc o3)) := fun o1 o2 o3 => bel_trans (bel_trans (bel_alloc _ _) (bel_alloc _ _)) (bel_alloc _ _)
    have K := hidI ((Hb.out.bel (B3.out (.cells #[.int .i64 a.kind, .int .i64 a.n, .string ⟨a.s.toArray⟩, .slice a1 a.keys.length c1, .slice a2 a.l.length c2] 25) (.cells #[.int .i64 b.kind, .int .i64 b.n, .string ⟨b.s.toArray⟩, .slice a3 b.keys.length c3, .slice a4 b.l.length c4] 25) (.cells #[.int .i64 b.kind, .int .i64 b.n, .string ⟨b.s.toArray⟩, .slice a3 b.keys.length c3, .slice a4 b.l.length c4] 25))).weak low_out)
    clear hk
    cases ha : (a.kind != 5) with
    | true =>
      go_enter Tryz.func18, Tryz.ntmps18
      go_wp2_with fail
      refine bodyPost_ret (v := .agg #[.int .i64 b.kind, .int .i64 b.n, .string ⟨b.s.toArray⟩, .slice a3 b.keys.length c3, .slice a4 b.l.length c4]) ?_ rfl ?_
      · simp [results, Tryz.results18, go_sem]
      · exact ⟨_, rfl, B3.out _ _ _, by rw [HM.out]; exact K.out⟩
    | false =>
      rw [ha, Bool.false_or] at e0
      go_enter Tryz.func18, Tryz.ntmps18
      go_wp2_with fail
      refine bodyPost_ret (v := .agg #[.int .i64 b.kind, .int .i64 b.n, .string ⟨b.s.toArray⟩, .slice a3 b.keys.length c3, .slice a4 b.l.length c4]) ?_ rfl ?_
      · simp [results, Tryz.results18, go_sem]
      · exact ⟨_, rfl, B3.out _ _ _, by rw [HM.out]; exact K.out⟩
theorem rother_is (E : Nat) : ROtC E := by
  induction E with
  | zero => intro w ok a b va vb _ _ _ _ h; exact h.elim
  | succ E ih => exact rother_succ E ih
end Go.Proofs.YtfbddgpekbhpfacGreatDoor

set_option linter.unusedSimpArgs false
set_option linter.unusedVariables false
namespace Go.Proofs.YtfbddgpekbhpfacGreatDoor
open Go.RowKit

theorem clns_append (xs ys : List V) : clns (xs ++ ys) = (clns xs && clns ys) := by simp [clns]
theorem clns_snoc {xs : List V} {k : Nat} (h : k < xs.length) : clns (xs.take (k + 1)) = (clns (xs.take k) && (!decide (xs[k].kind = 0) && cln xs[k])) := by
  rw [List.take_add_one, List.getElem?_eq_getElem h, clns_append]
  simp [clns]
def ICC (d : Nat) : Prop := ∀ (w : World) (ok : Nat → Prop) (t : V) (v : Value), VIs w ok d t v →
    Calls Tryz.prog 9 #[v] w fun e w' => e = .returned (.bool (cln t)) ∧ Below w.heap.size w w'
set_option maxRecDepth 100000 in
set_option maxHeartbeats 8000000 in
theorem isClean_succ (d : Nat) (ih : ICC d) : ICC (d + 1) := by
  intro w ok t v h
  have IH := hidI ih
  obtain ⟨a1, a2, c1, c2, rfl⟩ := h.shape
  have VV : Hid (ValsAre w ok (VIs w ok d) t.l (.slice a2 t.l.length c2)) := hidI (by
    obtain ⟨ks, ls, e, h1, h2, h3, h4, h5⟩ := h
    simp only [Value.agg.injEq, Array.mk.injEq, List.cons.injEq, and_true] at e
    obtain ⟨-, -, -, rfl, rfl⟩ := e
    exact h5)
  have ll : t.l.length ≤ 9223372036854775807 := VV.out.1
  clear h ih
  by_cases hk : t.kind = 5
  · have e0 : (t.kind == 5) = true := by rw [hk]; rfl
    have HC : Hid (cln t = clns t.l) := hidI (by rw [cln_eq]; simp [hk])
    clear hk
    go_enter Tryz.func9, Tryz.ntmps9
    go_wp2_with fail
    go_loopg [3, 12] t.l.length (fun gk c i wr => ∃ (k : Nat) (b : Bool), k ≤ t.l.length ∧ gk = t.l.length - k ∧ i = .int .i64 k ∧ c = .bool b ∧ b = clns (t.l.take k) ∧ BoxIs wr w.heap.size (.int .i64 t.kind) (.int .i64 t.n) (.string ⟨t.s.toArray⟩) (.slice a1 t.keys.length c1) (.slice a2 t.l.length c2) ∧ Below w.heap.size w wr)
    case atStart => exact ⟨0, true, Nat.zero_le _, rfl, rfl, rfl, rfl, heap_alloc_new w _, bel_alloc _ _⟩
    case round =>
      obtain ⟨k, b, hk, hgk, rfl, rfl, hb, hbx, hbl⟩ := hrel
      have GK := hidI hgk
      have HB := hidI hb
      have I := hidI (And.intro hbx hbl)
      clear hgk hb hbx hbl
      by_cases hlt : k < t.l.length
      · obtain ⟨xb, xo, rfl, j1, j2, a5, c5, a6, c6, p0, p1, p2, p3, p4, p5⟩ := vals_at VV.out hlt
        unfold maxLen at j2
        replace p0 := cell_bel I.out.2 p0
        replace p1 := cell_bel I.out.2 p1
        replace p2 := cell_bel I.out.2 p2
        replace p3 := cell_bel I.out.2 p3
        replace p4 := cell_bel I.out.2 p4
        have P5 := hidI (p5.bel I.out.2)
        have w1 : (0 : Int) ≤ (k : Int) := by omega
        have w2 : (k : Int) < (t.l.length : Int) := by omega
        have K : Hid (∀ o, BoxIs (wr.alloc o) w.heap.size (.int .i64 t.kind) (.int .i64 t.n) (.string ⟨t.s.toArray⟩) (.slice a1 t.keys.length c1) (.slice (some ⟨xb, xo, none⟩) t.l.length c2) ∧ Below w.heap.size w (wr.alloc o)) := hidI fun o => ⟨box_bel (bel_alloc wr o) I.out.1, bel_trans I.out.2 (bel_alloc wr o)⟩
        have SN := hidI (clns_snoc hlt)
        clear p5
        cases b with
        | false =>
          have FB : Hid (false = clns (t.l.take (k + 1))) := hidI (by rw [SN.out, ← HB.out]; rfl)
          go_wp2_with fail
          go_roundg (t.l.length - (k + 1))
          case measure => rw [GK.out]; omega
          case rel => exact ⟨k + 1, false, hlt, rfl, by go_num, rfl, FB.out, (K.out _).1, (K.out _).2⟩
        | true =>
          by_cases hz : t.l[k].kind = 0
          · have e3 : (t.l[k].kind != 0) = false := by rw [hz]; rfl
            have FB : Hid (false = clns (t.l.take (k + 1))) := hidI (by rw [SN.out]; simp [hz])
            clear hz
            go_wp2_with fail
            go_roundg (t.l.length - (k + 1))
            case measure => rw [GK.out]; omega
            case rel => exact ⟨k + 1, false, hlt, rfl, by go_num, rfl, FB.out, (K.out _).1, (K.out _).2⟩
          · have e3 : (t.l[k].kind != 0) = true := by rw [bne_iff_ne]; exact hz
            have FB : Hid (cln t.l[k] = clns (t.l.take (k + 1))) := hidI (by rw [SN.out, ← HB.out]; simp [hz])
            clear hz
            go_wp2_with fail
            refine (IH.out (wr.alloc (.cells #[.int .i64 t.l[k].kind, .int .i64 t.l[k].n, .string ⟨t.l[k].s.toArray⟩, .slice a5 t.l[k].keys.length c5, .slice a6 t.l[k].l.length c6] 25)) ok t.l[k] _ (P5.out.bel (bel_alloc _ _))).mono ?_
            rintro e w3 ⟨rfl, hb3⟩
            obtain ⟨cb, hcb⟩ : ∃ cb, cln t.l[k] = cb := ⟨_, rfl⟩
            rw [hcb]
            have FB2 : Hid (cb = clns (t.l.take (k + 1))) := hidI (by rw [← hcb]; exact FB.out)
            have K3 := hidI (And.intro (box_bel hb3 (K.out _).1) (bel_trans (K.out _).2 hb3))
            clear hb3 hcb p0 p1 p2 p3 p4
            go_wp2_with fail
            go_roundg (t.l.length - (k + 1))
            case measure => rw [GK.out]; omega
            case rel => exact ⟨k + 1, cb, hlt, rfl, by go_num, rfl, FB2.out, K3.out.1, K3.out.2⟩
      · have hke : k = t.l.length := by omega
        have FB : Hid (cln t = b) := hidI (by rw [HC.out, HB.out, hke, List.take_of_length_le (Nat.le_refl _)])
        have d1 : ¬ (k : Int) < (t.l.length : Int) := by omega
        clear hke
        go_wp2_with fail
        go_ret
        exact ⟨by rw [FB.out]; rfl, I.out.2⟩
  · have e0 : (t.kind == 5) = false := by rw [beq_eq_false_iff_ne]; exact hk
    have HC : Hid (cln t = true) := hidI (by rw [cln_eq]; simp [hk])
    clear hk
    go_enter Tryz.func9, Tryz.ntmps9
    go_wp2_with fail
    go_ret
    exact ⟨by rw [HC.out]; rfl, bel_alloc _ _⟩
theorem isClean_all (d : Nat) : ICC d := by
  induction d with
  | zero => exact fun _ _ _ _ h => h.elim
  | succ d ih => exact isClean_succ d ih
theorem isClean_is (w : World) (ok : Nat → Prop) (t : V) (v : Value) (h : In w ok t v) :
    Calls Tryz.prog 9 #[v] w fun e w' => e = .returned (.bool (cln t)) ∧ Below w.heap.size w w' := by
  obtain ⟨d, h⟩ := h; exact isClean_all d w ok t v h
end Go.Proofs.YtfbddgpekbhpfacGreatDoor
