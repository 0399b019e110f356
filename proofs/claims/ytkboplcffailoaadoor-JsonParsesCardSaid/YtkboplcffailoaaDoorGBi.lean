/- Whatever it is handed, JsonParses answers true and leaves all as it was.
   Its conditions: a text or a list takes at most 2^47 - 4096 bytes; the listed package-level variables hold what the program's text lays (the card ties them, over a pruned copy of the project). -/
import Derived.Test.YtkboplcffailoaaDoorGBf
import Derived.Test.YtkboplcffailoaaDoorFp
import Derived.Test.YtkboplcffailoaaDoorFh
import Derived.Test.YtkboplcffailoaaDoorTp
import Derived.Deep.CutBlock
import Derived.Deep.DrawnRows
import Derived.Test.YtkboplcffailoaaDoorXz
import Derived.Test.YtkboplcffailoaaDoorGBg
import Derived.Test.YtkboplcffailoaaDoorKd
import Derived.Test.YtkboplcffailoaaDoorKa
/- How many values a text tells: no more than it has bytes. -/
set_option linter.unusedSimpArgs false
set_option linter.unusedVariables false
namespace Go.Proofs.YtkboplcffailoaaDoor
open Go.RowKit

def CntG (g : Rd) : Prop := ∀ l v r, g l = some (v, r) → cnt v + r.length ≤ l.length
theorem cnts_app (a b : List V) : cnts (a ++ b) = cnts a + cnts b := by simp [cnts]
theorem cnts_tail (l : List V) (i : Nat) : cnts (l.drop (i + 1)) ≤ cnts (l.drop i) := by
  cases h : l.drop i with
  | nil =>
    have : l.drop (i + 1) = [] := by rw [← List.drop_drop, h]; rfl
    rw [this]; exact Nat.le_refl _
  | cons x r =>
    have : l.drop (i + 1) = r := by rw [← List.drop_drop, h]; rfl
    rw [this, cnts_cons]; omega
theorem cnts_cut (l : List V) (i : Nat) : cnts l = cnts (l.take i) + cnts (l.drop i) := by
  conv => lhs; rw [← List.take_append_drop i l]
  rw [cnts_app]
theorem cnt_with (t : V) (k : List UInt8) (x : V) : cnt (withV t k x) ≤ cnt t + cnt x := by
  rw [cnt_eq, cnt_eq t]
  unfold withV
  split
  · split
    · rename_i i _
      show 1 + cnts (t.l.take i ++ x :: t.l.drop (i + 1)) ≤ _
      rw [cnts_app, cnts_cons]
      have h1 := cnts_cut t.l i
      have h2 := cnts_tail t.l i
      omega
    · show 1 + cnts (t.l.take (insV k t.keys) ++ x :: t.l.drop (insV k t.keys)) ≤ _
      rw [cnts_app, cnts_cons]
      have h1 := cnts_cut t.l (insV k t.keys)
      omega
  · omega
theorem items_cnt {g : Rd} (h : CntG g) (k : Nat) : ∀ (acc : List V) (l : List UInt8) (p : V × List UInt8), itemsS g k acc l = some p → cnt p.1 + p.2.length ≤ 1 + cnts acc + l.length := by
  induction k with
  | zero => intro acc l p hp; cases hp
  | succ k ih =>
    intro acc l p hp
    rw [itemsS] at hp
    cases hm : markS 44 l with
    | some r =>
      rw [hm] at hp
      obtain ⟨⟨x, r2⟩, hg, hp⟩ := Option.bind_eq_some_iff.1 hp
      have a1 := markS_len hm
      have a2 := h _ _ _ hg
      have a3 := ih _ _ _ hp
      simp only [cnts_app, cnts_cons, cnts_nil] at a3
      omega
    | none =>
      rw [hm] at hp
      obtain ⟨r, hr, rfl⟩ := Option.map_eq_some_iff.1 hp
      have a1 := markS_len hr
      have a2 := dropSp_len l
      rw [cnt_eq]
      simp only
      omega
theorem list_cnt {g : Rd} (h : CntG g) : CntG (listS g) := by
  intro l v r hp
  unfold listS at hp
  obtain ⟨l1, h1, hp⟩ := Option.bind_eq_some_iff.1 hp
  have a1 := markS_len h1
  cases hm : markS 93 l1 with
  | some q =>
    rw [hm] at hp
    simp only [Option.some.injEq, Prod.mk.injEq] at hp
    obtain ⟨rfl, rfl⟩ := hp
    have a2 := markS_len hm
    rw [cnt_eq]
    simp only [cnts_nil]
    omega
  | none =>
    rw [hm] at hp
    obtain ⟨⟨x, r2⟩, hg, hp⟩ := Option.bind_eq_some_iff.1 hp
    have a2 := h _ _ _ hg
    have a3 := items_cnt h _ _ _ _ hp
    have a4 := dropSp_len l1
    simp only [cnts_cons, cnts_nil] at a3
    omega
theorem mem_cnt {g : Rd} (h : CntG g) {v : V} {l : List UInt8} {p : V × List UInt8} (hp : memR g v l = some p) : cnt p.1 + p.2.length ≤ cnt v + l.length := by
  unfold memR at hp
  obtain ⟨q, h1, hp⟩ := Option.bind_eq_some_iff.1 hp
  obtain ⟨l1, h2, hp⟩ := Option.bind_eq_some_iff.1 hp
  obtain ⟨⟨y, r⟩, h3, hp⟩ := Option.bind_eq_some_iff.1 hp
  have a1 := quotR_len h1
  have a2 := markS_len h2
  have a3 := h _ _ _ h3
  split at hp
  · cases hp
  · simp only [Option.some.injEq] at hp
    rw [← hp]
    have a4 := cnt_with v q.1 y
    simp only
    omega
theorem membs_cnt {g : Rd} (h : CntG g) (k : Nat) : ∀ (v : V) (l : List UInt8) (p : V × List UInt8), membsR g k v l = some p → cnt p.1 + p.2.length ≤ cnt v + l.length := by
  induction k with
  | zero => intro v l p hp; cases hp
  | succ k ih =>
    intro v l p hp
    rw [membsR] at hp
    cases hm : markS 44 l with
    | some r =>
      rw [hm] at hp
      obtain ⟨q, hg, hp⟩ := Option.bind_eq_some_iff.1 hp
      have a1 := markS_len hm
      have a2 := mem_cnt h hg
      have a3 := ih _ _ _ hp
      omega
    | none =>
      rw [hm] at hp
      obtain ⟨r, hr, rfl⟩ := Option.map_eq_some_iff.1 hp
      have a1 := markS_len hr
      have a2 := dropSp_len l
      simp only
      omega
theorem obj_cnt {g : Rd} (h : CntG g) : CntG (objR g) := by
  intro l v r hp
  unfold objR at hp
  obtain ⟨l1, h1, hp⟩ := Option.bind_eq_some_iff.1 hp
  have a1 := markS_len h1
  have a0 : cnt ⟨5, 0, [], [], []⟩ = 1 := by rw [cnt_eq]; rfl
  cases hm : markS 125 l1 with
  | some q =>
    rw [hm] at hp
    simp only [Option.some.injEq, Prod.mk.injEq] at hp
    obtain ⟨rfl, rfl⟩ := hp
    have a2 := markS_len hm
    omega
  | none =>
    rw [hm] at hp
    obtain ⟨q, hg, hp⟩ := Option.bind_eq_some_iff.1 hp
    have a2 := mem_cnt h hg
    have a3 := membs_cnt h _ _ _ _ hp
    have a4 := dropSp_len l1
    simp only at a3
    omega
theorem val_cnt (D : Nat) : CntG (valR D) := by
  induction D with
  | zero => intro l v r h; cases h
  | succ D ih =>
    intro l v r h
    have a0 := dropSp_len l
    have a1 := valR_len (D + 1) _ _ h
    have leaf : ∀ k n s, v = leafV k n s → cnt v + r.length ≤ l.length := by
      intro k n s e
      have : cnt v = 1 := by rw [e, cnt_eq]; rfl
      simp only at a1
      omega
    rw [valR] at h
    unfold oneQ at h
    split at h
    · obtain ⟨q, -, h2⟩ := Option.map_eq_some_iff.1 h
      simp only [Prod.mk.injEq] at h2
      exact leaf _ _ _ h2.1.symm
    split at h
    · obtain ⟨q, -, h2⟩ := Option.map_eq_some_iff.1 h
      simp only [Prod.mk.injEq] at h2
      exact leaf _ _ _ h2.1.symm
    split at h
    · obtain ⟨q, -, h2⟩ := Option.map_eq_some_iff.1 h
      simp only [Prod.mk.injEq] at h2
      exact leaf _ _ _ h2.1.symm
    split at h
    · obtain ⟨q, -, h2⟩ := Option.map_eq_some_iff.1 h
      simp only [Prod.mk.injEq] at h2
      exact leaf _ _ _ h2.1.symm
    split at h
    · have := list_cnt ih _ _ _ h; omega
    split at h
    · have := obj_cnt ih _ _ _ h; omega
    split at h
    · obtain ⟨q, -, h2⟩ := Option.map_eq_some_iff.1 h
      simp only [Prod.mk.injEq] at h2
      exact leaf _ _ _ h2.1.symm
    · cases h
end Go.Proofs.YtkboplcffailoaaDoor

/- What shaped of package stairwellref does. -/
set_option linter.unusedSimpArgs false
set_option linter.unusedVariables false
namespace Go.Proofs.YtkboplcffailoaaDoor
open Go.RowKit
attribute [local go_sem ↓] Go.wp_at_zero Go.wp_at_succ

set_option maxRecDepth 100000 in
set_option maxHeartbeats 40000000 in
theorem rshaped_k3 (d : Nat) (ih : ShpC d) (w : World) (ok : Nat → Prop) (t : V) (v : Value) (h : VIs w ok (d + 1) t v) (hk : t.kind = 3) :
    Calls Tryd.prog 29 #[v] w fun e w' => e = .returned (.bool (shp t)) ∧ Below w.heap.size w w' := by
  have IH := hidI ih
  obtain ⟨a1, a2, c1, c2, rfl⟩ := h.shape
  have VV : Hid (ValsAre w ok (VIs w ok d) t.l (.slice a2 t.l.length c2) ∧ StrsAre w ok t.keys (.slice a1 t.keys.length c1) ∧ t.s.length ≤ 9223372036854775807) := hidI (by
    obtain ⟨ks, ls, e, h1, h2, h3, h4, h5⟩ := h
    simp only [Value.agg.injEq, Array.mk.injEq, List.cons.injEq, and_true] at e
    obtain ⟨-, -, -, rfl, rfl⟩ := e
    exact ⟨h5, h4, h3⟩)
  have ll : t.l.length ≤ 9223372036854775807 := VV.out.1.1
  have lk : t.keys.length ≤ 9223372036854775807 := VV.out.2.1.1
  have B1 := hidI (bel_alloc w (.cells #[.int .i64 t.kind, .int .i64 t.n, .string ⟨t.s.toArray⟩, .slice a1 t.keys.length c1, .slice a2 t.l.length c2] 25))
  have HK := hidI hk
  clear h ih hk
  go_enter Tryd.func29, Tryd.ntmps29
  go_upto_block 0 with fail
  go_cut [3] (fun b wc => b = .bool (shapedB t) ∧ BoxIs wc w.heap.size (.int .i64 t.kind) (.int .i64 t.n) (.string ⟨t.s.toArray⟩) (.slice a1 t.keys.length c1) (.slice a2 t.l.length c2) ∧ Below w.heap.size w wc)
  case first =>
    have hk := HK.out
    have f0 : (t.kind == 0) = false := by simp [hk]
    have f1 : (t.kind == 1) = false := by simp [hk]
    have f2 : (t.kind == 2) = false := by simp [hk]
    have g3 : (t.kind == 3) = true := by simp [hk]
    by_cases hN : t.n = 0
    · have qN : (t.n == 0) = true := by simp [hN]
      cases hp : plainB t.s with
      | false =>
        have HP := hidI hp
        have HR : Hid (shapedB t = false) := hidI (by simp [shapedB, listlessB, hk, hN, hp])
        clear hk hN hp
        go_wp2_with fail
        refine (ascii_at _ t.s VV.out.2.2).mono ?_
        rintro e w4 ⟨rfl, hb4⟩
        rw [HP.out]
        have K4 : Hid (BoxIs w4 w.heap.size (.int .i64 t.kind) (.int .i64 t.n) (.string ⟨t.s.toArray⟩) (.slice a1 t.keys.length c1) (.slice a2 t.l.length c2) ∧ Below w.heap.size w w4) := hidI ⟨box_bel hb4 (heap_alloc_new w _), bel_trans B1.out hb4⟩
        clear hb4
        obtain ⟨y0, y1, y2, y3, y4, -⟩ := K4.out.1.c
        go_wp2_with fail
        go_meet
        case rel => exact ⟨by rw [HR.out], K4.out⟩
      | true =>
        have HP := hidI hp
        by_cases hK : t.keys.length = 0
        · have qK : ((t.keys.length : Int) == 0) = true := by simp [hK]
          by_cases hL : t.l.length = 0
          · have qL : ((t.l.length : Int) == 0) = true := by simp [hL]
            have HR : Hid (shapedB t = true) := hidI (by simp [shapedB, listlessB, hk, hN, hp, hK, hL])
            clear hk hN hp hK hL
            go_wp2_with fail
            refine (ascii_at _ t.s VV.out.2.2).mono ?_
            rintro e w4 ⟨rfl, hb4⟩
            rw [HP.out]
            have K4 : Hid (BoxIs w4 w.heap.size (.int .i64 t.kind) (.int .i64 t.n) (.string ⟨t.s.toArray⟩) (.slice a1 t.keys.length c1) (.slice a2 t.l.length c2) ∧ Below w.heap.size w w4) := hidI ⟨box_bel hb4 (heap_alloc_new w _), bel_trans B1.out hb4⟩
            clear hb4
            obtain ⟨y0, y1, y2, y3, y4, -⟩ := K4.out.1.c
            go_wp2_with fail
            go_meet
            case rel => exact ⟨by rw [HR.out], K4.out⟩
          · have qL : ((t.l.length : Int) == 0) = false := by rw [beq_eq_false_iff_ne]; omega
            have HR : Hid (shapedB t = false) := hidI (by simp [shapedB, listlessB, hk, hN, hp, hK, hL])
            clear hk hN hp hK hL
            go_wp2_with fail
            refine (ascii_at _ t.s VV.out.2.2).mono ?_
            rintro e w4 ⟨rfl, hb4⟩
            rw [HP.out]
            have K4 : Hid (BoxIs w4 w.heap.size (.int .i64 t.kind) (.int .i64 t.n) (.string ⟨t.s.toArray⟩) (.slice a1 t.keys.length c1) (.slice a2 t.l.length c2) ∧ Below w.heap.size w w4) := hidI ⟨box_bel hb4 (heap_alloc_new w _), bel_trans B1.out hb4⟩
            clear hb4
            obtain ⟨y0, y1, y2, y3, y4, -⟩ := K4.out.1.c
            go_wp2_with fail
            go_meet
            case rel => exact ⟨by rw [HR.out], K4.out⟩
        · have qK : ((t.keys.length : Int) == 0) = false := by rw [beq_eq_false_iff_ne]; omega
          have HR : Hid (shapedB t = false) := hidI (by simp [shapedB, listlessB, hk, hN, hp, hK])
          clear hk hN hp hK
          go_wp2_with fail
          refine (ascii_at _ t.s VV.out.2.2).mono ?_
          rintro e w4 ⟨rfl, hb4⟩
          rw [HP.out]
          have K4 : Hid (BoxIs w4 w.heap.size (.int .i64 t.kind) (.int .i64 t.n) (.string ⟨t.s.toArray⟩) (.slice a1 t.keys.length c1) (.slice a2 t.l.length c2) ∧ Below w.heap.size w w4) := hidI ⟨box_bel hb4 (heap_alloc_new w _), bel_trans B1.out hb4⟩
          clear hb4
          obtain ⟨y0, y1, y2, y3, y4, -⟩ := K4.out.1.c
          go_wp2_with fail
          go_meet
          case rel => exact ⟨by rw [HR.out], K4.out⟩
    · have qN : (t.n == 0) = false := by simp [hN]
      have HR : Hid (shapedB t = false) := hidI (by simp [shapedB, listlessB, hk, hN])
      clear hk hN
      go_wp2_with fail
      go_meet
      case rel => exact ⟨by rw [HR.out], ⟨heap_alloc_new w _, B1.out⟩⟩
  case rest =>
    obtain ⟨rfl, hc⟩ := hcut
    have C0 := hidI hc
    have HSP := hidI (shp_eq t)
    obtain ⟨y0, y1, y2, y3, y4, -⟩ := hc.1.c
    obtain ⟨o0, ho0⟩ : ∃ o, shapedB t = o := ⟨_, rfl⟩
    rw [ho0]
    have O0 := hidI ho0
    clear hc ho0
    go_wp2_with fail
    go_loopg [3, 179] t.l.length (fun gk b i wr => ∃ (k : Nat), k ≤ t.l.length ∧ gk = t.l.length - k ∧ i = .int .i64 k ∧ b = .bool (o0 && shps (t.l.take k)) ∧ Below w.heap.size w wr)
    case atStart => exact ⟨0, Nat.zero_le _, rfl, rfl, by simp [shps], C0.out.2⟩
    case round =>
      obtain ⟨k, hk, hgk, rfl, rfl, hb⟩ := hrel
      have GK := hidI hgk
      have HB := hidI hb
      clear hgk hb
      by_cases hlt : k < t.l.length
      · obtain ⟨b, off, rfl, z1, z2, a5, c5, a6, c6, p0, p1, p2, p3, p4, p5⟩ := vals_at VV.out.1 hlt
        unfold maxLen at z2
        replace p0 := cell_bel HB.out p0
        replace p1 := cell_bel HB.out p1
        replace p2 := cell_bel HB.out p2
        replace p3 := cell_bel HB.out p3
        replace p4 := cell_bel HB.out p4
        have P5 := hidI (p5.bel HB.out)
        have w1 : (0 : Int) ≤ (k : Int) := by omega
        have w2 : (k : Int) < (t.l.length : Int) := by omega
        have e1 : Hid (shps (t.l.take (k + 1)) = (shps (t.l.take k) && shp t.l[k])) := hidI (by rw [take_snocV hlt, shps_snoc])
        clear p5
        cases hoo : (o0 && shps (t.l.take k)) with
        | false =>
          have HN : Hid ((o0 && shps (t.l.take (k + 1))) = false) := hidI (by rw [e1.out, ← Bool.and_assoc, hoo]; rfl)
          clear hoo
          go_wp2_with fail
          go_roundg (t.l.length - (k + 1))
          case measure => rw [GK.out]; omega
          case rel => exact ⟨k + 1, hlt, rfl, by go_num, by rw [HN.out], bel_trans HB.out (bel_alloc _ _)⟩
        | true =>
          have HN : Hid ((o0 && shps (t.l.take (k + 1))) = shp t.l[k]) := hidI (by rw [e1.out, ← Bool.and_assoc, hoo]; rfl)
          clear hoo
          go_wp2_with fail
          refine (IH.out _ ok t.l[k] _ (by exact P5.out.bel (bel_alloc _ _))).mono ?_
          rintro e w4 ⟨rfl, hb4⟩
          have HB4 := hidI (bel_trans HB.out (bel_trans (bel_alloc _ _) hb4))
          clear hb4 p0 p1 p2 p3 p4
          go_wp2_with fail
          go_roundg (t.l.length - (k + 1))
          case measure => rw [GK.out]; omega
          case rel => exact ⟨k + 1, hlt, rfl, by go_num, by rw [HN.out], HB4.out⟩
      · have l1 : t.l.take k = t.l := List.take_of_length_le (by omega)
        have d1 : ¬ (k : Int) < (t.l.length : Int) := by omega
        rw [l1]
        have HF : Hid (shp t = (o0 && shps t.l)) := hidI (by rw [HSP.out, O0.out])
        clear l1
        go_wp2_with fail
        go_ret
        exact ⟨by rw [HF.out]; rfl, HB.out⟩
set_option maxRecDepth 100000 in
set_option maxHeartbeats 40000000 in
theorem rshaped_k4 (d : Nat) (ih : ShpC d) (w : World) (ok : Nat → Prop) (t : V) (v : Value) (h : VIs w ok (d + 1) t v) (hk : t.kind = 4) :
    Calls Tryd.prog 29 #[v] w fun e w' => e = .returned (.bool (shp t)) ∧ Below w.heap.size w w' := by
  have IH := hidI ih
  obtain ⟨a1, a2, c1, c2, rfl⟩ := h.shape
  have VV : Hid (ValsAre w ok (VIs w ok d) t.l (.slice a2 t.l.length c2) ∧ StrsAre w ok t.keys (.slice a1 t.keys.length c1) ∧ t.s.length ≤ 9223372036854775807) := hidI (by
    obtain ⟨ks, ls, e, h1, h2, h3, h4, h5⟩ := h
    simp only [Value.agg.injEq, Array.mk.injEq, List.cons.injEq, and_true] at e
    obtain ⟨-, -, -, rfl, rfl⟩ := e
    exact ⟨h5, h4, h3⟩)
  have ll : t.l.length ≤ 9223372036854775807 := VV.out.1.1
  have lk : t.keys.length ≤ 9223372036854775807 := VV.out.2.1.1
  have B1 := hidI (bel_alloc w (.cells #[.int .i64 t.kind, .int .i64 t.n, .string ⟨t.s.toArray⟩, .slice a1 t.keys.length c1, .slice a2 t.l.length c2] 25))
  have HK := hidI hk
  clear h ih hk
  go_enter Tryd.func29, Tryd.ntmps29
  go_upto_block 0 with fail
  go_cut [3] (fun b wc => b = .bool (shapedB t) ∧ BoxIs wc w.heap.size (.int .i64 t.kind) (.int .i64 t.n) (.string ⟨t.s.toArray⟩) (.slice a1 t.keys.length c1) (.slice a2 t.l.length c2) ∧ Below w.heap.size w wc)
  case first =>
    have hk := HK.out
    have f0 : (t.kind == 0) = false := by simp [hk]
    have f1 : (t.kind == 1) = false := by simp [hk]
    have f2 : (t.kind == 2) = false := by simp [hk]
    have f3 : (t.kind == 3) = false := by simp [hk]
    have g4 : (t.kind == 4) = true := by simp [hk]
    by_cases hN : t.n = 0
    · have qN : (t.n == 0) = true := by simp [hN]
      by_cases hS : t.s = []
      · have qS : (t.s == []) = true := by simp [hS]
        by_cases hK : t.keys.length = 0
        · have qK : ((t.keys.length : Int) == 0) = true := by simp [hK]
          have HR : Hid (shapedB t = true) := hidI (by simp [shapedB, listlessB, hk, hN, hS, hK])
          clear hk hN hS hK
          go_wp2_with fail
          go_meet
          case rel => exact ⟨by rw [HR.out], ⟨heap_alloc_new w _, B1.out⟩⟩
        · have qK : ((t.keys.length : Int) == 0) = false := by rw [beq_eq_false_iff_ne]; omega
          have HR : Hid (shapedB t = false) := hidI (by simp [shapedB, listlessB, hk, hN, hS, hK])
          clear hk hN hS hK
          go_wp2_with fail
          go_meet
          case rel => exact ⟨by rw [HR.out], ⟨heap_alloc_new w _, B1.out⟩⟩
      · have qS : (t.s == []) = false := by simp [hS]
        have HR : Hid (shapedB t = false) := hidI (by simp [shapedB, listlessB, hk, hN, hS])
        clear hk hN hS
        go_wp2_with fail
        go_meet
        case rel => exact ⟨by rw [HR.out], ⟨heap_alloc_new w _, B1.out⟩⟩
    · have qN : (t.n == 0) = false := by simp [hN]
      have HR : Hid (shapedB t = false) := hidI (by simp [shapedB, listlessB, hk, hN])
      clear hk hN
      go_wp2_with fail
      go_meet
      case rel => exact ⟨by rw [HR.out], ⟨heap_alloc_new w _, B1.out⟩⟩
  case rest =>
    obtain ⟨rfl, hc⟩ := hcut
    have C0 := hidI hc
    have HSP := hidI (shp_eq t)
    obtain ⟨y0, y1, y2, y3, y4, -⟩ := hc.1.c
    obtain ⟨o0, ho0⟩ : ∃ o, shapedB t = o := ⟨_, rfl⟩
    rw [ho0]
    have O0 := hidI ho0
    clear hc ho0
    go_wp2_with fail
    go_loopg [3, 179] t.l.length (fun gk b i wr => ∃ (k : Nat), k ≤ t.l.length ∧ gk = t.l.length - k ∧ i = .int .i64 k ∧ b = .bool (o0 && shps (t.l.take k)) ∧ Below w.heap.size w wr)
    case atStart => exact ⟨0, Nat.zero_le _, rfl, rfl, by simp [shps], C0.out.2⟩
    case round =>
      obtain ⟨k, hk, hgk, rfl, rfl, hb⟩ := hrel
      have GK := hidI hgk
      have HB := hidI hb
      clear hgk hb
      by_cases hlt : k < t.l.length
      · obtain ⟨b, off, rfl, z1, z2, a5, c5, a6, c6, p0, p1, p2, p3, p4, p5⟩ := vals_at VV.out.1 hlt
        unfold maxLen at z2
        replace p0 := cell_bel HB.out p0
        replace p1 := cell_bel HB.out p1
        replace p2 := cell_bel HB.out p2
        replace p3 := cell_bel HB.out p3
        replace p4 := cell_bel HB.out p4
        have P5 := hidI (p5.bel HB.out)
        have w1 : (0 : Int) ≤ (k : Int) := by omega
        have w2 : (k : Int) < (t.l.length : Int) := by omega
        have e1 : Hid (shps (t.l.take (k + 1)) = (shps (t.l.take k) && shp t.l[k])) := hidI (by rw [take_snocV hlt, shps_snoc])
        clear p5
        cases hoo : (o0 && shps (t.l.take k)) with
        | false =>
          have HN : Hid ((o0 && shps (t.l.take (k + 1))) = false) := hidI (by rw [e1.out, ← Bool.and_assoc, hoo]; rfl)
          clear hoo
          go_wp2_with fail
          go_roundg (t.l.length - (k + 1))
          case measure => rw [GK.out]; omega
          case rel => exact ⟨k + 1, hlt, rfl, by go_num, by rw [HN.out], bel_trans HB.out (bel_alloc _ _)⟩
        | true =>
          have HN : Hid ((o0 && shps (t.l.take (k + 1))) = shp t.l[k]) := hidI (by rw [e1.out, ← Bool.and_assoc, hoo]; rfl)
          clear hoo
          go_wp2_with fail
          refine (IH.out _ ok t.l[k] _ (by exact P5.out.bel (bel_alloc _ _))).mono ?_
          rintro e w4 ⟨rfl, hb4⟩
          have HB4 := hidI (bel_trans HB.out (bel_trans (bel_alloc _ _) hb4))
          clear hb4 p0 p1 p2 p3 p4
          go_wp2_with fail
          go_roundg (t.l.length - (k + 1))
          case measure => rw [GK.out]; omega
          case rel => exact ⟨k + 1, hlt, rfl, by go_num, by rw [HN.out], HB4.out⟩
      · have l1 : t.l.take k = t.l := List.take_of_length_le (by omega)
        have d1 : ¬ (k : Int) < (t.l.length : Int) := by omega
        rw [l1]
        have HF : Hid (shp t = (o0 && shps t.l)) := hidI (by rw [HSP.out, O0.out])
        clear l1
        go_wp2_with fail
        go_ret
        exact ⟨by rw [HF.out]; rfl, HB.out⟩
set_option maxRecDepth 100000 in
set_option maxHeartbeats 40000000 in
theorem rshaped_k6 (d : Nat) (ih : ShpC d) (w : World) (ok : Nat → Prop) (t : V) (v : Value) (h : VIs w ok (d + 1) t v) (hk : t.kind ≠ 0 ∧ t.kind ≠ 1 ∧ t.kind ≠ 2 ∧ t.kind ≠ 3 ∧ t.kind ≠ 4 ∧ t.kind ≠ 5) :
    Calls Tryd.prog 29 #[v] w fun e w' => e = .returned (.bool (shp t)) ∧ Below w.heap.size w w' := by
  have IH := hidI ih
  obtain ⟨a1, a2, c1, c2, rfl⟩ := h.shape
  have VV : Hid (ValsAre w ok (VIs w ok d) t.l (.slice a2 t.l.length c2) ∧ StrsAre w ok t.keys (.slice a1 t.keys.length c1) ∧ t.s.length ≤ 9223372036854775807) := hidI (by
    obtain ⟨ks, ls, e, h1, h2, h3, h4, h5⟩ := h
    simp only [Value.agg.injEq, Array.mk.injEq, List.cons.injEq, and_true] at e
    obtain ⟨-, -, -, rfl, rfl⟩ := e
    exact ⟨h5, h4, h3⟩)
  have ll : t.l.length ≤ 9223372036854775807 := VV.out.1.1
  have lk : t.keys.length ≤ 9223372036854775807 := VV.out.2.1.1
  have B1 := hidI (bel_alloc w (.cells #[.int .i64 t.kind, .int .i64 t.n, .string ⟨t.s.toArray⟩, .slice a1 t.keys.length c1, .slice a2 t.l.length c2] 25))
  have HK := hidI hk
  clear h ih hk
  go_enter Tryd.func29, Tryd.ntmps29
  go_upto_block 0 with fail
  go_cut [3] (fun b wc => b = .bool (shapedB t) ∧ BoxIs wc w.heap.size (.int .i64 t.kind) (.int .i64 t.n) (.string ⟨t.s.toArray⟩) (.slice a1 t.keys.length c1) (.slice a2 t.l.length c2) ∧ Below w.heap.size w wc)
  case first =>
    have hk := HK.out
    obtain ⟨n0, n1, n2, n3, n4, n5⟩ := hk
    have f0 : (t.kind == 0) = false := by rw [beq_eq_false_iff_ne]; exact n0
    have f1 : (t.kind == 1) = false := by rw [beq_eq_false_iff_ne]; exact n1
    have f2 : (t.kind == 2) = false := by rw [beq_eq_false_iff_ne]; exact n2
    have f3 : (t.kind == 3) = false := by rw [beq_eq_false_iff_ne]; exact n3
    have f4 : (t.kind == 4) = false := by rw [beq_eq_false_iff_ne]; exact n4
    have f5 : (t.kind == 5) = false := by rw [beq_eq_false_iff_ne]; exact n5
    have HR : Hid (shapedB t = false) := hidI (by simp [shapedB, n0, n1, n2, n3, n4, n5])
    clear n0 n1 n2 n3 n4 n5
    go_wp2_with fail
    go_meet
    case rel => exact ⟨by rw [HR.out], heap_alloc_new w _, B1.out⟩
  case rest =>
    obtain ⟨rfl, hc⟩ := hcut
    have C0 := hidI hc
    have HSP := hidI (shp_eq t)
    obtain ⟨y0, y1, y2, y3, y4, -⟩ := hc.1.c
    obtain ⟨o0, ho0⟩ : ∃ o, shapedB t = o := ⟨_, rfl⟩
    rw [ho0]
    have O0 := hidI ho0
    clear hc ho0
    go_wp2_with fail
    go_loopg [3, 179] t.l.length (fun gk b i wr => ∃ (k : Nat), k ≤ t.l.length ∧ gk = t.l.length - k ∧ i = .int .i64 k ∧ b = .bool (o0 && shps (t.l.take k)) ∧ Below w.heap.size w wr)
    case atStart => exact ⟨0, Nat.zero_le _, rfl, rfl, by simp [shps], C0.out.2⟩
    case round =>
      obtain ⟨k, hk, hgk, rfl, rfl, hb⟩ := hrel
      have GK := hidI hgk
      have HB := hidI hb
      clear hgk hb
      by_cases hlt : k < t.l.length
      · obtain ⟨b, off, rfl, z1, z2, a5, c5, a6, c6, p0, p1, p2, p3, p4, p5⟩ := vals_at VV.out.1 hlt
        unfold maxLen at z2
        replace p0 := cell_bel HB.out p0
        replace p1 := cell_bel HB.out p1
        replace p2 := cell_bel HB.out p2
        replace p3 := cell_bel HB.out p3
        replace p4 := cell_bel HB.out p4
        have P5 := hidI (p5.bel HB.out)
        have w1 : (0 : Int) ≤ (k : Int) := by omega
        have w2 : (k : Int) < (t.l.length : Int) := by omega
        have e1 : Hid (shps (t.l.take (k + 1)) = (shps (t.l.take k) && shp t.l[k])) := hidI (by rw [take_snocV hlt, shps_snoc])
        clear p5
        cases hoo : (o0 && shps (t.l.take k)) with
        | false =>
          have HN : Hid ((o0 && shps (t.l.take (k + 1))) = false) := hidI (by rw [e1.out, ← Bool.and_assoc, hoo]; rfl)
          clear hoo
          go_wp2_with fail
          go_roundg (t.l.length - (k + 1))
          case measure => rw [GK.out]; omega
          case rel => exact ⟨k + 1, hlt, rfl, by go_num, by rw [HN.out], bel_trans HB.out (bel_alloc _ _)⟩
        | true =>
          have HN : Hid ((o0 && shps (t.l.take (k + 1))) = shp t.l[k]) := hidI (by rw [e1.out, ← Bool.and_assoc, hoo]; rfl)
          clear hoo
          go_wp2_with fail
          refine (IH.out _ ok t.l[k] _ (by exact P5.out.bel (bel_alloc _ _))).mono ?_
          rintro e w4 ⟨rfl, hb4⟩
          have HB4 := hidI (bel_trans HB.out (bel_trans (bel_alloc _ _) hb4))
          clear hb4 p0 p1 p2 p3 p4
          go_wp2_with fail
          go_roundg (t.l.length - (k + 1))
          case measure => rw [GK.out]; omega
          case rel => exact ⟨k + 1, hlt, rfl, by go_num, by rw [HN.out], HB4.out⟩
      · have l1 : t.l.take k = t.l := List.take_of_length_le (by omega)
        have d1 : ¬ (k : Int) < (t.l.length : Int) := by omega
        rw [l1]
        have HF : Hid (shp t = (o0 && shps t.l)) := hidI (by rw [HSP.out, O0.out])
        clear l1
        go_wp2_with fail
        go_ret
        exact ⟨by rw [HF.out]; rfl, HB.out⟩
end Go.Proofs.YtkboplcffailoaaDoor

/- What shaped of package stairwellref does. -/
set_option linter.unusedSimpArgs false
set_option linter.unusedVariables false
namespace Go.Proofs.YtkboplcffailoaaDoor
open Go.RowKit
attribute [local go_sem ↓] Go.wp_at_zero Go.wp_at_succ

set_option maxRecDepth 100000 in
set_option maxHeartbeats 40000000 in
theorem rshaped_k5 (d : Nat) (ih : ShpC d) (w : World) (ok : Nat → Prop) (t : V) (v : Value) (h : VIs w ok (d + 1) t v) (hk : t.kind = 5) :
    Calls Tryd.prog 29 #[v] w fun e w' => e = .returned (.bool (shp t)) ∧ Below w.heap.size w w' := by
  have IH := hidI ih
  obtain ⟨a1, a2, c1, c2, rfl⟩ := h.shape
  have VV : Hid (ValsAre w ok (VIs w ok d) t.l (.slice a2 t.l.length c2) ∧ StrsAre w ok t.keys (.slice a1 t.keys.length c1) ∧ t.s.length ≤ 9223372036854775807) := hidI (by
    obtain ⟨ks, ls, e, h1, h2, h3, h4, h5⟩ := h
    simp only [Value.agg.injEq, Array.mk.injEq, List.cons.injEq, and_true] at e
    obtain ⟨-, -, -, rfl, rfl⟩ := e
    exact ⟨h5, h4, h3⟩)
  have ll : t.l.length ≤ 9223372036854775807 := VV.out.1.1
  have lk : t.keys.length ≤ 9223372036854775807 := VV.out.2.1.1
  have B1 := hidI (bel_alloc w (.cells #[.int .i64 t.kind, .int .i64 t.n, .string ⟨t.s.toArray⟩, .slice a1 t.keys.length c1, .slice a2 t.l.length c2] 25))
  have HK := hidI hk
  clear h ih hk
  go_enter Tryd.func29, Tryd.ntmps29
  go_upto_block 0 with fail
  go_cut [3] (fun b wc => b = .bool (shapedB t) ∧ BoxIs wc w.heap.size (.int .i64 t.kind) (.int .i64 t.n) (.string ⟨t.s.toArray⟩) (.slice a1 t.keys.length c1) (.slice a2 t.l.length c2) ∧ Below w.heap.size w wc)
  case first =>
    have hk := HK.out
    have f0 : (t.kind == 0) = false := by simp [hk]
    have f1 : (t.kind == 1) = false := by simp [hk]
    have f2 : (t.kind == 2) = false := by simp [hk]
    have f3 : (t.kind == 3) = false := by simp [hk]
    have f4 : (t.kind == 4) = false := by simp [hk]
    have g5 : (t.kind == 5) = true := by simp [hk]
    obtain ⟨o5, ho5⟩ : ∃ o, (decide (t.n = 0) && decide (t.s = []) && decide (t.keys.length = t.l.length)) = o := ⟨_, rfl⟩
    have S5 : Hid (shapedB t = (o5 && riseFrom none t.keys)) := hidI (by rw [shaped_five hk, ho5])
    have O5 := hidI ho5
    clear hk ho5
    go_upto_region 14 with fail
    go_cut [3] (fun b wc => b = .bool o5 ∧ BoxIs wc w.heap.size (.int .i64 t.kind) (.int .i64 t.n) (.string ⟨t.s.toArray⟩) (.slice a1 t.keys.length c1) (.slice a2 t.l.length c2) ∧ Below w.heap.size w wc)
    case first =>
      by_cases hN : t.n = 0
      · have qN : (t.n == 0) = true := by simp [hN]
        by_cases hS : t.s = []
        · have qS : (t.s == []) = true := by simp [hS]
          by_cases hM : t.keys.length = t.l.length
          · have qM : ((t.keys.length : Int) == (t.l.length : Int)) = true := by simp [hM]
            have HR : Hid (o5 = true) := hidI (by rw [← O5.out]; simp [hN, hS, hM])
            clear hN hS hM
            go_wp2_with fail
            go_meet
            case rel => exact ⟨by rw [HR.out], heap_alloc_new w _, B1.out⟩
          · have qM : ((t.keys.length : Int) == (t.l.length : Int)) = false := by rw [beq_eq_false_iff_ne]; omega
            have HR : Hid (o5 = false) := hidI (by rw [← O5.out]; simp [hN, hS, hM])
            clear hN hS hM
            go_wp2_with fail
            go_meet
            case rel => exact ⟨by rw [HR.out], heap_alloc_new w _, B1.out⟩
        · have qS : (t.s == []) = false := by simp [hS]
          have HR : Hid (o5 = false) := hidI (by rw [← O5.out]; simp [hN, hS])
          clear hN hS
          go_wp2_with fail
          go_meet
          case rel => exact ⟨by rw [HR.out], heap_alloc_new w _, B1.out⟩
      · have qN : (t.n == 0) = false := by simp [hN]
        have HR : Hid (o5 = false) := hidI (by rw [← O5.out]; simp [hN])
        clear hN
        go_wp2_with fail
        go_meet
        case rel => exact ⟨by rw [HR.out], heap_alloc_new w _, B1.out⟩
    case rest =>
      obtain ⟨rfl, hc⟩ := hcut
      have C0 := hidI hc
      obtain ⟨y0, y1, y2, y3, y4, -⟩ := hc.1.c
      clear hc
      go_wp2_with fail
      go_loopg [3, 145] t.keys.length (fun gk b i wr => ∃ (k : Nat) (o : Bool), k ≤ t.keys.length ∧ gk = t.keys.length - k ∧ i = .int .i64 k ∧ b = .bool o ∧ Hid (shapedB t = (o && riseFrom (prevAt t.keys k) (t.keys.drop k))) ∧ BoxIs wr w.heap.size (.int .i64 t.kind) (.int .i64 t.n) (.string ⟨t.s.toArray⟩) (.slice a1 t.keys.length c1) (.slice a2 t.l.length c2) ∧ Below w.heap.size w wr)
      case atStart => exact ⟨0, o5, Nat.zero_le _, rfl, rfl, rfl, hidI S5.out, C0.out⟩
      case round =>
        obtain ⟨k, o, hk, hgk, rfl, rfl, HS, hc⟩ := hrel
        have GK := hidI hgk
        have CC := hidI hc
        obtain ⟨y0, y1, y2, y3, y4, -⟩ := hc.1.c
        clear hgk hc
        by_cases hlt : k < t.keys.length
        · have w1 : (0 : Int) ≤ (k : Int) := by omega
          have w2 : (k : Int) < (t.keys.length : Int) := by omega
          have ST := hidI (riseFrom_step hlt)
          cases o with
          | false =>
            have HN : Hid (shapedB t = (false && riseFrom (prevAt t.keys (k + 1)) (t.keys.drop (k + 1)))) := hidI (by rw [HS.out]; rfl)
            clear HS ST
            go_wp2_with fail
            go_quiet (fail)
            all_goals
              go_wp2_with fail
              go_roundg (t.keys.length - (k + 1))
              case measure => rw [GK.out]; omega
              case rel => exact ⟨k + 1, false, hlt, rfl, by go_num, rfl, HN, by first | exact CC.out | exact ⟨box_bel (bel_drewN _ _) CC.out.1, bel_trans CC.out.2 (bel_drewN _ _)⟩ | exact ⟨box_bel (show Below wr.heap.size wr wr.drew from (Below.refl _ wr).drew) CC.out.1, bel_trans CC.out.2 (show Below wr.heap.size wr wr.drew from (Below.refl _ wr).drew)⟩⟩
          | true =>
            obtain ⟨kb, ko, rfl, z1, z2, hc1⟩ := strs_at VV.out.2.1 hlt
            unfold maxLen at z2
            have hcell := cell_bel CC.out.2 hc1
            have KLn : Hid (t.keys[k].length ≤ 9223372036854775807) := hidI (by
              rcases VV.out.2.1.2 with ⟨e, _⟩ | ⟨b, off, c', e, h1, h2, hcs⟩
              · rw [e] at hlt; simp at hlt
              · exact (hcs k t.keys[k] (List.getElem?_eq_getElem hlt)).1)
            have CALL : Hid (∀ (o : Bool), plainB t.keys[k] = o → ∀ (n : Nat) (os : Array Obj), Calls Tryd.prog 45 #[.string ⟨t.keys[k].toArray⟩] (Go.Sort.grow (wr.drewN n) os) fun e w'' => e = .returned (.bool o) ∧ ∃ p : GrownBy, w'' = Go.Sort.grow (wr.drewN p.n) p.os) := hidI (fun o ho n os => Calls.grown_of ((ascii_gr _ t.keys[k] KLn.out).mono fun e w4 h => ⟨by rw [← ho]; exact h.1, h.2⟩))
            have hmix : Tryd.prog.follows .mixedOrders = true := by kernel_rfl
            have s0 : ∀ n os, (Go.Sort.grow (wr.drewN n) os).cell? ⟨w.heap.size, 3, none⟩ = some (.slice (some ⟨kb, ko, none⟩) t.keys.length c1) := cell_grown CC.out.1.lt CC.out.1.c.2.2.2.1
            have s1 : ∀ n os, (Go.Sort.grow (wr.drewN n) os).cell? ⟨kb, ko + k, none⟩ = some (.string ⟨t.keys[k].toArray⟩) := cell_grown (World.block_lt_of_cell? wr _ hcell) hcell
            clear hc1
            cases hpl : plainB t.keys[k] with
            | false =>
              have HPL := hidI hpl
              have HN : Hid (shapedB t = (false && riseFrom (prevAt t.keys (k + 1)) (t.keys.drop (k + 1)))) := hidI (by rw [HS.out, ST.out, hpl]; rfl)
              clear hpl HS ST
              go_wp2_with fail
              refine wp_region_quiet_grown (by assumption) (by kernel_rfl) ?_
              repeat (first | go_big_quiet_step ((go_at_call 45; exact CALL.out _ HPL.out _ _)) | quiet_step ((go_at_call 45; exact CALL.out _ HPL.out _ _)))
              refine wpQuiet_nil ?_
              intro _ hw'
              obtain ⟨⟨nq, osq⟩, hw''⟩ := hw'
              subst hw''
              all_goals
                go_wp2_with fail
                go_roundg (t.keys.length - (k + 1))
                case measure => rw [GK.out]; omega
                case rel => exact ⟨k + 1, false, hlt, rfl, by go_num, rfl, HN, box_bel (bel_grow _ _ _) CC.out.1, bel_trans CC.out.2 (bel_grow _ _ _)⟩
            | true =>
              have HPL := hidI hpl
              clear hpl
              by_cases hk0 : k = 0
              · have e9 : ((k : Int) == 0) = true := by simp [hk0]
                have HN : Hid (shapedB t = (true && riseFrom (prevAt t.keys (k + 1)) (t.keys.drop (k + 1)))) := hidI (by rw [HS.out, ST.out, HPL.out, show prevAt t.keys k = none by simp [prevAt, hk0]]; rfl)
                clear HS ST hk0
                go_wp2_with fail
                refine wp_region_quiet_grown (by assumption) (by kernel_rfl) ?_
                repeat (first | go_big_quiet_step ((go_at_call 45; exact CALL.out _ HPL.out _ _)) | quiet_step ((go_at_call 45; exact CALL.out _ HPL.out _ _)))
                refine wpQuiet_nil ?_
                intro _ hw'
                obtain ⟨⟨nq, osq⟩, hw''⟩ := hw'
                subst hw''
                go_wp2_with fail
                go_roundg (t.keys.length - (k + 1))
                case measure => rw [GK.out]; omega
                case rel => exact ⟨k + 1, true, hlt, rfl, by go_num, rfl, HN, box_bel (bel_grow _ _ _) CC.out.1, bel_trans CC.out.2 (bel_grow _ _ _)⟩
              · have e9 : ((k : Int) == 0) = false := by rw [beq_eq_false_iff_ne]; omega
                obtain ⟨j, hj9⟩ : ∃ j, k = j + 1 := ⟨k - 1, by omega⟩
                have hj : j < t.keys.length := by omega
                obtain ⟨kb', ko', hke, -, -, hc2⟩ := strs_at VV.out.2.1 hj
                simp only [Option.some.injEq, Addr.mk.injEq, and_true] at hke
                obtain ⟨rfl, rfl⟩ := hke
                have hcell2 := cell_bel CC.out.2 hc2
                have j1 : (k : Int) - 1 = (j : Int) := by omega
                have j2 : (j : Int) < (t.keys.length : Int) := by omega
                have j3 : (0 : Int) ≤ (j : Int) := by omega
                have Z : Hid (prevAt t.keys k = some t.keys[j]) := hidI (by simp [prevAt, hk0, show k - 1 = j by omega, List.getElem?_eq_getElem hj])
                have s2 : ∀ n os, (Go.Sort.grow (wr.drewN n) os).cell? ⟨kb, ko + j, none⟩ = some (.string ⟨t.keys[j].toArray⟩) := cell_grown (World.block_lt_of_cell? wr _ hcell2) hcell2
                clear hc2 hk0 hj9
                cases hbl : Op.bytesLess t.keys[j] t.keys[k] with
                | true =>
                  have HN : Hid (shapedB t = (true && riseFrom (prevAt t.keys (k + 1)) (t.keys.drop (k + 1)))) := hidI (by rw [HS.out, ST.out, HPL.out, Z.out]; simp only [hbl]; rfl)
                  clear HS ST Z
                  go_wp2_with fail
                  refine wp_region_quiet_grown (by assumption) (by kernel_rfl) ?_
                  repeat (first | go_big_quiet_step ((go_at_call 45; exact CALL.out _ HPL.out _ _)) | quiet_step ((go_at_call 45; exact CALL.out _ HPL.out _ _)))
                  refine wpQuiet_nil ?_
                  intro _ hw'
                  obtain ⟨⟨nq, osq⟩, hw''⟩ := hw'
                  subst hw''
                  go_wp2_with fail
                  go_roundg (t.keys.length - (k + 1))
                  case measure => rw [GK.out]; omega
                  case rel => exact ⟨k + 1, true, hlt, rfl, by go_num, rfl, HN, box_bel (bel_grow _ _ _) CC.out.1, bel_trans CC.out.2 (bel_grow _ _ _)⟩
                | false =>
                  have HN : Hid (shapedB t = (false && riseFrom (prevAt t.keys (k + 1)) (t.keys.drop (k + 1)))) := hidI (by rw [HS.out, ST.out, HPL.out, Z.out]; simp only [hbl]; rfl)
                  clear HS ST Z
                  go_wp2_with fail
                  refine wp_region_quiet_grown (by assumption) (by kernel_rfl) ?_
                  repeat (first | go_big_quiet_step ((go_at_call 45; exact CALL.out _ HPL.out _ _)) | quiet_step ((go_at_call 45; exact CALL.out _ HPL.out _ _)))
                  refine wpQuiet_nil ?_
                  intro _ hw'
                  obtain ⟨⟨nq, osq⟩, hw''⟩ := hw'
                  subst hw''
                  go_wp2_with fail
                  go_roundg (t.keys.length - (k + 1))
                  case measure => rw [GK.out]; omega
                  case rel => exact ⟨k + 1, false, hlt, rfl, by go_num, rfl, HN, box_bel (bel_grow _ _ _) CC.out.1, bel_trans CC.out.2 (bel_grow _ _ _)⟩
        · have l1 : t.keys.drop k = [] := List.drop_eq_nil_of_le (by omega)
          have HN : Hid (shapedB t = o) := hidI (by rw [HS.out, l1]; simp [riseFrom])
          have d1 : ¬ (k : Int) < (t.keys.length : Int) := by omega
          clear l1
          go_wp2_with fail
          go_meet
          case rel => exact ⟨by rw [HN.out], CC.out⟩
  case rest =>
    obtain ⟨rfl, hc⟩ := hcut
    have C0 := hidI hc
    have HSP := hidI (shp_eq t)
    obtain ⟨y0, y1, y2, y3, y4, -⟩ := hc.1.c
    obtain ⟨o0, ho0⟩ : ∃ o, shapedB t = o := ⟨_, rfl⟩
    rw [ho0]
    have O0 := hidI ho0
    clear hc ho0
    go_wp2_with fail
    go_loopg [3, 179] t.l.length (fun gk b i wr => ∃ (k : Nat), k ≤ t.l.length ∧ gk = t.l.length - k ∧ i = .int .i64 k ∧ b = .bool (o0 && shps (t.l.take k)) ∧ Below w.heap.size w wr)
    case atStart => exact ⟨0, Nat.zero_le _, rfl, rfl, by simp [shps], C0.out.2⟩
    case round =>
      obtain ⟨k, hk, hgk, rfl, rfl, hb⟩ := hrel
      have GK := hidI hgk
      have HB := hidI hb
      clear hgk hb
      by_cases hlt : k < t.l.length
      · obtain ⟨b, off, rfl, z1, z2, a5, c5, a6, c6, p0, p1, p2, p3, p4, p5⟩ := vals_at VV.out.1 hlt
        unfold maxLen at z2
        replace p0 := cell_bel HB.out p0
        replace p1 := cell_bel HB.out p1
        replace p2 := cell_bel HB.out p2
        replace p3 := cell_bel HB.out p3
        replace p4 := cell_bel HB.out p4
        have P5 := hidI (p5.bel HB.out)
        have w1 : (0 : Int) ≤ (k : Int) := by omega
        have w2 : (k : Int) < (t.l.length : Int) := by omega
        have e1 : Hid (shps (t.l.take (k + 1)) = (shps (t.l.take k) && shp t.l[k])) := hidI (by rw [take_snocV hlt, shps_snoc])
        clear p5
        cases hoo : (o0 && shps (t.l.take k)) with
        | false =>
          have HN : Hid ((o0 && shps (t.l.take (k + 1))) = false) := hidI (by rw [e1.out, ← Bool.and_assoc, hoo]; rfl)
          clear hoo
          go_wp2_with fail
          go_roundg (t.l.length - (k + 1))
          case measure => rw [GK.out]; omega
          case rel => exact ⟨k + 1, hlt, rfl, by go_num, by rw [HN.out], bel_trans HB.out (bel_alloc _ _)⟩
        | true =>
          have HN : Hid ((o0 && shps (t.l.take (k + 1))) = shp t.l[k]) := hidI (by rw [e1.out, ← Bool.and_assoc, hoo]; rfl)
          clear hoo
          go_wp2_with fail
          refine (IH.out _ ok t.l[k] _ (by exact P5.out.bel (bel_alloc _ _))).mono ?_
          rintro e w4 ⟨rfl, hb4⟩
          have HB4 := hidI (bel_trans HB.out (bel_trans (bel_alloc _ _) hb4))
          clear hb4 p0 p1 p2 p3 p4
          go_wp2_with fail
          go_roundg (t.l.length - (k + 1))
          case measure => rw [GK.out]; omega
          case rel => exact ⟨k + 1, hlt, rfl, by go_num, by rw [HN.out], HB4.out⟩
      · have l1 : t.l.take k = t.l := List.take_of_length_le (by omega)
        have d1 : ¬ (k : Int) < (t.l.length : Int) := by omega
        rw [l1]
        have HF : Hid (shp t = (o0 && shps t.l)) := hidI (by rw [HSP.out, O0.out])
        clear l1
        go_wp2_with fail
        go_ret
        exact ⟨by rw [HF.out]; rfl, HB.out⟩
end Go.Proofs.YtkboplcffailoaaDoor

/- What shaped of package stairwellref does, of every kind. -/
set_option linter.unusedSimpArgs false
set_option linter.unusedVariables false
namespace Go.Proofs.YtkboplcffailoaaDoor
open Go.RowKit

theorem rshaped_all (d : Nat) : ShpC d := by
  induction d with
  | zero => exact fun _ _ _ _ h => h.elim
  | succ d ih =>
    intro w ok t v h
    by_cases h0 : t.kind = 0
    · exact rshaped_k0 d ih w ok t v h h0
    by_cases h1 : t.kind = 1
    · exact rshaped_k1 d ih w ok t v h h1
    by_cases h2 : t.kind = 2
    · exact rshaped_k2 d ih w ok t v h h2
    by_cases h3 : t.kind = 3
    · exact rshaped_k3 d ih w ok t v h h3
    by_cases h4 : t.kind = 4
    · exact rshaped_k4 d ih w ok t v h h4
    by_cases h5 : t.kind = 5
    · exact rshaped_k5 d ih w ok t v h h5
    exact rshaped_k6 d ih w ok t v h ⟨h0, h1, h2, h3, h4, h5⟩
end Go.Proofs.YtkboplcffailoaaDoor

/- What depthOf and ascii of package stairwellref do. -/
set_option linter.unusedSimpArgs false
set_option linter.unusedVariables false
namespace Go.Proofs.YtkboplcffailoaaDoor
open Go.RowKit

def DptC (d : Nat) : Prop := ∀ (w : World) (ok : Nat → Prop) (t : V) (v : Value), VIs w ok d t v → cnt t ≤ 1000000000000000 →
    Calls Tryd.prog 28 #[v] w fun e w' => e = .returned (.tuple #[.int .i64 (dpt t : Int), .int .i64 (cnt t : Int)]) ∧ Below w.heap.size w w'

set_option maxRecDepth 100000 in
set_option maxHeartbeats 8000000 in
theorem depthOf_succ (d : Nat) (ih : DptC d) : DptC (d + 1) := by
  intro w ok t v h hN
  have IH := hidI ih
  have H := hidI (h.is : In w ok t v)
  obtain ⟨a1, a2, c1, c2, rfl⟩ := h.shape
  have VV : Hid (ValsAre w ok (VIs w ok d) t.l (.slice a2 t.l.length c2)) := hidI (by
    obtain ⟨ks, ls, e, h1, h2, h3, h4, h5⟩ := h
    simp only [Value.agg.injEq, Array.mk.injEq, List.cons.injEq, and_true] at e
    obtain ⟨-, -, -, -, rfl⟩ := e
    exact h5)
  have ll : t.l.length ≤ 9223372036854775807 := VV.out.1
  have B1 := hidI (bel_alloc w (.cells #[.int .i64 t.kind, .int .i64 t.n, .string ⟨t.s.toArray⟩, .slice a1 t.keys.length c1, .slice a2 t.l.length c2] 25))
  have HC := hidI (cnt_eq t)
  have HDT := hidI (dpt_eq t)
  have HN := hidI hN
  clear h ih hN
  go_enter Tryd.func28, Tryd.ntmps28
  go_wp2_with fail
  go_loopg [4, 5, 13] t.l.length (fun gk dd n i wr => ∃ k : Nat, k ≤ t.l.length ∧ gk = t.l.length - k ∧ i = .int .i64 k ∧ dd = .int .i64 (dpts (t.l.take k) : Int) ∧ n = .int .i64 ((1 + cnts (t.l.take k) : Nat) : Int) ∧ Below w.heap.size w wr)
  case atStart => exact ⟨0, Nat.zero_le _, rfl, rfl, rfl, rfl, B1.out⟩
  case round =>
    obtain ⟨k, hk, hgk, rfl, rfl, rfl, hb⟩ := hrel
    have GK := hidI hgk
    have HB := hidI hb
    have q1 := cnts_take (xs := t.l) k
    have q2 := dpts_cnt (t.l.take k)
    have q3 : cnts t.l ≤ 1000000000000000 := by have := HC.out; have := HN.out; omega
    clear hgk hb
    by_cases hlt : k < t.l.length
    · obtain ⟨b, off, rfl, z1, z2, a5, c5, a6, c6, p0, p1, p2, p3, p4, p5⟩ := vals_at VV.out hlt
      unfold maxLen at z2
      replace p0 := cell_bel HB.out p0
      replace p1 := cell_bel HB.out p1
      replace p2 := cell_bel HB.out p2
      replace p3 := cell_bel HB.out p3
      replace p4 := cell_bel HB.out p4
      have P5 := hidI (p5.bel HB.out)
      have w1 : (0 : Int) ≤ (k : Int) := by omega
      have w2 : (k : Int) < (t.l.length : Int) := by omega
      have hx := cnts_mem (List.getElem_mem hlt)
      have hxd := dpt_cnt t.l[k]
      have hxn : cnt t.l[k] ≤ 1000000000000000 := by omega
      have e1 : Hid (dpts (t.l.take (k + 1)) = max (dpts (t.l.take k)) (dpt t.l[k])) := hidI (by rw [take_snocV hlt, dpts_snoc])
      have e2 : Hid (cnts (t.l.take (k + 1)) = cnts (t.l.take k) + cnt t.l[k]) := hidI (by rw [take_snocV hlt, cnts_snoc])
      have q4 := cnts_take (xs := t.l) (k + 1)
      have q5 : cnts (t.l.take k) + cnt t.l[k] ≤ 1000000000000000 := by have := e2.out; omega
      clear p5 q4
      obtain ⟨x, hxe⟩ : ∃ x, dpt t.l[k] = x := ⟨_, rfl⟩
      obtain ⟨m, hme⟩ : ∃ m, cnt t.l[k] = m := ⟨_, rfl⟩
      obtain ⟨dd, hdd⟩ : ∃ m, dpts (t.l.take k) = m := ⟨_, rfl⟩
      obtain ⟨nn, hnn⟩ : ∃ m, cnts (t.l.take k) = m := ⟨_, rfl⟩
      rw [hme] at q5 hx hxn hxd
      rw [hxe] at hxd
      rw [hdd] at q2 ⊢
      rw [hnn] at q1 q2 q5 ⊢
      have X1 := hidI hxe
      have X2 := hidI hme
      have X3 := hidI hdd
      have X4 := hidI hnn
      have XN := hidI hxn
      clear hxe hme hdd hnn hxn
      go_wp2_with fail
      refine (IH.out _ ok t.l[k] _ (by exact P5.out.bel (bel_alloc _ _)) (by rw [X2.out]; exact XN.out)).mono ?_
      rintro e w4 ⟨rfl, hb4⟩
      rw [X1.out, X2.out]
      have HB4 := hidI (bel_trans HB.out (bel_trans (bel_alloc _ _) hb4))
      clear hb4 p0 p1 p2 p3 p4
      by_cases hmx : dd ≤ x
      · have m1 : max (dd : Int) (x : Int) = (x : Int) := by omega
        go_wp2_with fail
        go_roundg (t.l.length - (k + 1))
        case measure => rw [GK.out]; omega
        case rel => exact ⟨k + 1, hlt, rfl, by go_num, by rw [e1.out, X1.out, X3.out, Nat.max_eq_right hmx], by rw [e2.out, X2.out, X4.out]; go_num, HB4.out⟩
      · have m1 : max (dd : Int) (x : Int) = (dd : Int) := by omega
        go_wp2_with fail
        go_roundg (t.l.length - (k + 1))
        case measure => rw [GK.out]; omega
        case rel => exact ⟨k + 1, hlt, rfl, by go_num, by rw [e1.out, X1.out, X3.out, Nat.max_eq_left (by omega)], by rw [e2.out, X2.out, X4.out]; go_num, HB4.out⟩
    · have l1 : t.l.take k = t.l := List.take_of_length_le (by omega)
      have d1 : ¬ (k : Int) < (t.l.length : Int) := by omega
      rw [l1] at q2 q1 ⊢
      have F1 : Hid (((dpts t.l : Int) + 1) = (dpt t : Int)) := hidI (by rw [HDT.out]; omega)
      have F2 : Hid (((1 + cnts t.l : Nat) : Int) = (cnt t : Int)) := hidI (by rw [HC.out])
      clear l1
      go_wp2_with fail
      go_ret2
      exact ⟨by rw [← F1.out, ← F2.out]; rfl, HB.out⟩
theorem depthOf_all (d : Nat) : DptC d := by
  induction d with
  | zero => exact fun _ _ _ _ h => h.elim
  | succ d ih => exact depthOf_succ d ih
theorem depthOf_is (w : World) (ok : Nat → Prop) (t : V) (v : Value) (h : In w ok t v) (hN : cnt t ≤ 1000000000000000) :
    Calls Tryd.prog 28 #[v] w fun e w' => e = .returned (.tuple #[.int .i64 (dpt t : Int), .int .i64 (cnt t : Int)]) ∧ Below w.heap.size w w' := by
  obtain ⟨d, h⟩ := h; exact depthOf_all d w ok t v h hN
end Go.Proofs.YtkboplcffailoaaDoor

/- What GoodValue of package stairwellref answers: what Good answers. -/
set_option linter.unusedSimpArgs false
set_option linter.unusedVariables false
namespace Go.Proofs.YtkboplcffailoaaDoor
open Go.RowKit

theorem rshaped_is (w : World) (ok : Nat → Prop) (t : V) (v : Value) (h : In w ok t v) :
    Calls Tryd.prog 29 #[v] w fun e w' => e = .returned (.bool (shp t)) ∧ Below w.heap.size w w' := by
  obtain ⟨d, h⟩ := h; exact rshaped_all d w ok t v h
set_option maxRecDepth 100000 in
set_option maxHeartbeats 8000000 in
theorem rgood_is (w : World) (ok : Nat → Prop) (t : V) (v : Value) (h : In w ok t v) (hN : cnt t ≤ 1000000000000000) :
    Calls Tryd.prog 13 #[v] w fun e w' => e = .returned (.bool (goodV t)) ∧ Below w.heap.size w w' := by
  have H := hidI h
  have HG := hidI (good_ref t)
  have hd := dpt_cnt t
  obtain ⟨a1, a2, c1, c2, rfl⟩ := h.form
  clear h
  have HN := hidI hN
  obtain ⟨x, hx⟩ : ∃ x, dpt t = x := ⟨_, rfl⟩
  obtain ⟨m, hm⟩ : ∃ m, cnt t = m := ⟨_, rfl⟩
  rw [hm] at hd hN
  rw [hx] at hd
  have X := hidI hx
  have M := hidI hm
  clear hx hm
  go_enter Tryd.func13, Tryd.ntmps13
  go_wp2_with fail
  refine (depthOf_is _ ok t _ (by exact H.out.bel (bel_alloc _ _)) HN.out).mono ?_
  rintro e w1 ⟨rfl, hb1⟩
  rw [X.out, M.out]
  have K1 : Hid (BoxIs w1 w.heap.size (.int .i64 t.kind) (.int .i64 t.n) (.string ⟨t.s.toArray⟩) (.slice a1 t.keys.length c1) (.slice a2 t.l.length c2) ∧ Below w.heap.size w w1) := hidI ⟨box_bel hb1 (heap_alloc_new w _), bel_trans (bel_alloc _ _) hb1⟩
  clear hb1
  obtain ⟨y0, y1, y2, y3, y4, -⟩ := K1.out.1.c
  by_cases h1 : x ≤ 12
  · have q1 : (x : Int) ≤ 12 := by omega
    by_cases h2 : m ≤ 120
    · have q2 : (m : Int) ≤ 120 := by omega
      have HR : Hid (goodV t = shp t) := hidI (by rw [← HG.out, X.out, M.out]; simp [h1, h2])
      clear h1 h2
      go_wp2_with fail
      refine (rshaped_is _ ok t _ (by exact H.out.bel K1.out.2)).mono ?_
      rintro e w2 ⟨rfl, hb2⟩
      have B2 := hidI (bel_trans K1.out.2 hb2)
      clear hb2
      go_wp2_with fail
      go_ret
      exact ⟨by rw [HR.out]; rfl, B2.out⟩
    · have q2 : ¬ (m : Int) ≤ 120 := by omega
      have HR : Hid (goodV t = false) := hidI (by rw [← HG.out, X.out, M.out]; simp [h2])
      clear h1 h2
      go_wp2_with fail
      go_ret
      exact ⟨by rw [HR.out]; rfl, K1.out.2⟩
  · have q1 : ¬ (x : Int) ≤ 12 := by omega
    have HR : Hid (goodV t = false) := hidI (by rw [← HG.out, X.out, M.out]; simp [h1])
    clear h1
    go_wp2_with fail
    go_ret
    exact ⟨by rw [HR.out]; rfl, K1.out.2⟩
end Go.Proofs.YtkboplcffailoaaDoor

/- What SameValue of package stairwellref does. -/
set_option linter.unusedSimpArgs false
set_option linter.unusedVariables false
namespace Go.Proofs.YtkboplcffailoaaDoor
open Go.RowKit

def RSameC (d : Nat) : Prop := ∀ (w : World) (ok ok' : Nat → Prop) (a b : V) (va vb : Value), VIs w ok d a va → VIs w ok' d b vb →
    Calls Tryd.prog 6 #[va, vb] w fun e w' => e = .returned (.bool (sameS d a b)) ∧ Below w.heap.size w w'

set_option maxRecDepth 100000 in
set_option maxHeartbeats 8000000 in
theorem rsame_succ (d : Nat) (ih : RSameC d) : RSameC (d + 1) := by
  intro w ok ok' a b va vb ha hb
  obtain ⟨a1, a2, c1, c2, rfl⟩ := ha.shape
  obtain ⟨b1, b2, d1, d2, rfl⟩ := hb.shape
  have IH := hidI ih
  have lA : a.keys.length ≤ maxLen ∧ a.l.length ≤ maxLen := by obtain ⟨ks, ls, e, h1, h2, h3, h4, h5⟩ := ha; exact ⟨h4.1, h5.1⟩
  have lB : b.keys.length ≤ maxLen ∧ b.l.length ≤ maxLen := by obtain ⟨ks, ls, e, h1, h2, h3, h4, h5⟩ := hb; exact ⟨h4.1, h5.1⟩
  unfold maxLen at lA lB
  obtain ⟨lA1, lA2⟩ := lA
  obtain ⟨lB1, lB2⟩ := lB
  have HA := hidI ha
  have HB := hidI hb
  clear ha hb ih
  by_cases hk : ¬ (a.kind = b.kind)
  · have F : Hid (sameS (d + 1) a b = false) := hidI (by simp [sameS, hk])
    have Ehk : (a.kind == b.kind) = false := by rw [beq_eq_false_iff_ne]; exact hk
    have Nhk : (a.kind != b.kind) = true := by simp [bne, Ehk]
    go_enter Tryd.func6, Tryd.ntmps6
    go_wp2_with fail
    all_goals
      go_ret
      rw [F.out]
      exact ⟨rfl, bel_trans (bel_alloc _ _) (bel_alloc _ _)⟩
  rw [Decidable.not_not] at hk
  by_cases hn : ¬ (a.n = b.n)
  · have F : Hid (sameS (d + 1) a b = false) := hidI (by simp [sameS, hn])
    have Ehk : (a.kind == b.kind) = true := by rw [beq_iff_eq]; exact hk
    have Ehn : (a.n == b.n) = false := by rw [beq_eq_false_iff_ne]; exact hn
    have Nhn : (a.n != b.n) = true := by simp [bne, Ehn]
    clear hk
    go_enter Tryd.func6, Tryd.ntmps6
    go_wp2_with fail
    all_goals
      go_ret
      rw [F.out]
      exact ⟨rfl, bel_trans (bel_alloc _ _) (bel_alloc _ _)⟩
  rw [Decidable.not_not] at hn
  by_cases hs : ¬ (a.s = b.s)
  · have F : Hid (sameS (d + 1) a b = false) := hidI (by simp [sameS, hs])
    have Ehk : (a.kind == b.kind) = true := by rw [beq_iff_eq]; exact hk
    have Ehn : (a.n == b.n) = true := by rw [beq_iff_eq]; exact hn
    have Ehs : (ByteArray.mk a.s.toArray == ByteArray.mk b.s.toArray) = false := ba_ne (by simpa using hs)
    have Nhs : (ByteArray.mk a.s.toArray != ByteArray.mk b.s.toArray) = true := by simp [bne, Ehs]
    clear hk hn
    go_enter Tryd.func6, Tryd.ntmps6
    go_wp2_with fail
    all_goals
      go_ret
      rw [F.out]
      exact ⟨rfl, bel_trans (bel_alloc _ _) (bel_alloc _ _)⟩
  rw [Decidable.not_not] at hs
  by_cases hkl : ¬ (a.keys.length = b.keys.length)
  · have hkx : a.keys ≠ b.keys := fun e => hkl (by rw [e])
    have F : Hid (sameS (d + 1) a b = false) := hidI (by simp [sameS, hkx])
    have Ehk : (a.kind == b.kind) = true := by rw [beq_iff_eq]; exact hk
    have Ehn : (a.n == b.n) = true := by rw [beq_iff_eq]; exact hn
    have Ehs : (ByteArray.mk a.s.toArray == ByteArray.mk b.s.toArray) = true := ba_eq (by simpa using hs)
    have Ehkl : ((a.keys.length : Int) == (b.keys.length : Int)) = false := by rw [beq_eq_false_iff_ne]; omega
    have Nhkl : ((a.keys.length : Int) != (b.keys.length : Int)) = true := by simp only [bne, Ehkl, Bool.not_false]
    clear hkx
    clear hk hn hs
    go_enter Tryd.func6, Tryd.ntmps6
    go_wp2_with fail
    all_goals
      go_ret
      rw [F.out]
      exact ⟨rfl, bel_trans (bel_alloc _ _) (bel_alloc _ _)⟩
  rw [Decidable.not_not] at hkl
  by_cases hll : ¬ (a.l.length = b.l.length)
  · have F : Hid (sameS (d + 1) a b = false) := hidI (by simp [sameS, hll])
    have Ehk : (a.kind == b.kind) = true := by rw [beq_iff_eq]; exact hk
    have Ehn : (a.n == b.n) = true := by rw [beq_iff_eq]; exact hn
    have Ehs : (ByteArray.mk a.s.toArray == ByteArray.mk b.s.toArray) = true := ba_eq (by simpa using hs)
    have Ehkl : ((a.keys.length : Int) == (b.keys.length : Int)) = true := by rw [beq_iff_eq]; omega
    have Ehll : ((a.l.length : Int) == (b.l.length : Int)) = false := by rw [beq_eq_false_iff_ne]; omega
    have Nhll : ((a.l.length : Int) != (b.l.length : Int)) = true := by simp only [bne, Ehll, Bool.not_false]
    clear hk hn hs hkl
    go_enter Tryd.func6, Tryd.ntmps6
    go_wp2_with fail
    all_goals
      go_ret
      rw [F.out]
      exact ⟨rfl, bel_trans (bel_alloc _ _) (bel_alloc _ _)⟩
  rw [Decidable.not_not] at hll
  have FS : Hid (sameS (d + 1) a b = (decide (a.keys = b.keys) && allS (sameS d) a.l b.l)) := hidI (by simp [sameS, hk, hn, hs, hll])
  have HKL := hidI hkl
  have HLL := hidI hll
  rw [← hk, ← hn, ← hs, ← hkl, ← hll] at HB ⊢
  have es : (ByteArray.mk a.s.toArray == ByteArray.mk a.s.toArray) = true := ba_eq rfl
  have I0 : Hid (SameI w ((w.alloc (.cells #[.int .i64 a.kind, .int .i64 a.n, .string ⟨a.s.toArray⟩, .slice a1 a.keys.length c1, .slice a2 a.l.length c2] 25)).alloc (.cells #[.int .i64 a.kind, .int .i64 a.n, .string ⟨a.s.toArray⟩, .slice b1 a.keys.length d1, .slice b2 a.l.length d2] 25)) ok ok' (d + 1) a b a.kind a.n a.s a.keys.length a.l.length a1 a2 b1 b2 c1 c2 d1 d2) :=
    ⟨h2a w _ _, h2b w _ _, HA.out.bel (bel_trans (bel_alloc _ _) (bel_alloc _ _)), HB.out.bel (bel_trans (bel_alloc _ _) (bel_alloc _ _)), bel_trans (bel_alloc _ _) (bel_alloc _ _)⟩
  clear hk hn hs hkl hll
  go_enter Tryd.func6, Tryd.ntmps6
  go_wp2_with fail
  go_loopg [47] a.keys.length (fun gk i wr => ∃ (k : Nat), k ≤ a.keys.length ∧ gk = a.keys.length - k ∧ i = .int .i64 k ∧ (∀ j, j < k → a.keys[j]? = b.keys[j]?) ∧ SameI w wr ok ok' (d + 1) a b a.kind a.n a.s a.keys.length a.l.length a1 a2 b1 b2 c1 c2 d1 d2)
  case atStart => exact ⟨0, Nat.zero_le _, rfl, rfl, fun j hj => absurd hj (by omega), I0.out⟩
  case round =>
    obtain ⟨k, hk, hgk, rfl, hke, hI⟩ := hrel
    have A := hidI (And.intro hke hI)
    obtain ⟨x0, x1, x2, x3, x4, -⟩ := hI.1.c
    obtain ⟨y0, y1, y2, y3, y4, -⟩ := hI.2.1.c
    clear hke
    by_cases hlt : k < a.keys.length
    · have hlt2 : k < b.keys.length := by rw [← HKL.out]; exact hlt
      obtain ⟨g1, o1, rfl, z1, z2, z3⟩ : ∃ g1 o1, a1 = some ⟨g1, o1, none⟩ ∧ a.keys.length ≤ c1 ∧ c1 ≤ maxLen ∧ wr.cell? ⟨g1, o1 + k, none⟩ = some (.string ⟨a.keys[k].toArray⟩) := by
        obtain ⟨ks, ls, e, -, -, -, h4, -⟩ := hI.2.2.1
        simp only [Value.agg.injEq, Array.mk.injEq, List.cons.injEq, and_true] at e
        obtain ⟨-, -, -, rfl, -⟩ := e
        exact strs_at h4 hlt
      obtain ⟨g2, o2, rfl, z4, z5, z6⟩ : ∃ g2 o2, b1 = some ⟨g2, o2, none⟩ ∧ b.keys.length ≤ d1 ∧ d1 ≤ maxLen ∧ wr.cell? ⟨g2, o2 + k, none⟩ = some (.string ⟨b.keys[k].toArray⟩) := by
        obtain ⟨ks, ls, e, -, -, -, h4, -⟩ := hI.2.2.2.1
        simp only [Value.agg.injEq, Array.mk.injEq, List.cons.injEq, and_true] at e
        obtain ⟨-, -, -, rfl, -⟩ := e
        exact strs_at h4 hlt2
      unfold maxLen at z2 z5
      clear hI
      by_cases hq : a.keys[k] = b.keys[k]
      · rw [← hq] at z6
        have q1 : (ByteArray.mk a.keys[k].toArray == ByteArray.mk a.keys[k].toArray) = true := ba_eq rfl
        have HQ := hidI hq
        clear hq
        go_wp2_with fail
        go_quiet (fail)
        go_wp2_with fail
        go_roundg (a.keys.length - (k + 1))
        case measure => omega
        case rel =>
          refine ⟨k + 1, hlt, rfl, by go_num, ?_, A.out.2.drewN _⟩
          intro j hj
          by_cases hjk : j < k
          · exact A.out.1 j hjk
          · have : j = k := by omega
            subst this
            rw [List.getElem?_eq_getElem hlt, List.getElem?_eq_getElem hlt2, HQ.out]
      · have q1 : (ByteArray.mk a.keys[k].toArray == ByteArray.mk b.keys[k].toArray) = false := ba_ne (by simpa using hq)
        have q2 : (a.keys[k] == b.keys[k]) = false := by rw [beq_eq_false_iff_ne]; exact hq
        have HQ := hidI hq
        clear hq
        go_wp2_with fail
        go_quiet (fail)
        go_wp2_with fail
        go_ret
        refine ⟨?_, (A.out.2.drewN _).2.2.2.2⟩
        have hne : a.keys ≠ b.keys := by
          intro e
          apply HQ.out
          have := congrArg (fun l => l[k]?) e
          simp only [List.getElem?_eq_getElem hlt, List.getElem?_eq_getElem hlt2, Option.some.injEq] at this
          exact this
        rw [FS.out]
        simp [hne]
    · have hke : Hid (a.keys = b.keys) := hidI (by
        apply List.ext_getElem?
        intro j
        by_cases hj : j < k
        · exact A.out.1 j hj
        · have h1 : a.keys.length ≤ j := by omega
          rw [List.getElem?_eq_none h1, List.getElem?_eq_none (by rw [← HKL.out]; exact h1)])
      have AI := hidI A.out.2
      clear hI A x0 x1 x2 x3 x4 y0 y1 y2 y3 y4
      obtain ⟨x0, x1, x2, x3, x4, -⟩ := AI.out.1.c
      obtain ⟨y0, y1, y2, y3, y4, -⟩ := AI.out.2.1.c
      go_wp2_with fail
      go_loopg [65] a.l.length (fun gk i wr => ∃ (k : Nat), k ≤ a.l.length ∧ gk = a.l.length - k ∧ i = .int .i64 k ∧ (∀ (j : Nat) (x y : V), j < k → a.l[j]? = some x → b.l[j]? = some y → sameS d x y = true) ∧ SameI w wr ok ok' (d + 1) a b a.kind a.n a.s a.keys.length a.l.length a1 a2 b1 b2 c1 c2 d1 d2)
      case atStart => exact ⟨0, Nat.zero_le _, rfl, rfl, fun j x y hj => absurd hj (by omega), AI.out⟩
      case round =>
        obtain ⟨k', hk', hgk', rfl, hall, hI⟩ := hrel
        have A := hidI (And.intro hall hI)
        clear hall x0 x1 x2 x3 x4 y0 y1 y2 y3 y4
        by_cases hlt' : k' < a.l.length
        · have hltb : k' < b.l.length := by rw [← HLL.out]; exact hlt'
          obtain ⟨g1, o1, rfl, z1, z2, a5, c5, a6, c6, p0, p1, p2, p3, p4, p5⟩ : ∃ g1 o1, a2 = some ⟨g1, o1, none⟩ ∧ a.l.length ≤ c2 ∧ c2 ≤ maxLen ∧ _ := by
            obtain ⟨ks, ls, e, -, -, -, -, h5⟩ := hI.2.2.1
            simp only [Value.agg.injEq, Array.mk.injEq, List.cons.injEq, and_true] at e
            obtain ⟨-, -, -, -, rfl⟩ := e
            exact vals_at h5 hlt'
          obtain ⟨g2, o2, rfl, z4, z5, a5', c5', a6', c6', q0, q1, q2, q3, q4, q5⟩ : ∃ g2 o2, b2 = some ⟨g2, o2, none⟩ ∧ b.l.length ≤ d2 ∧ d2 ≤ maxLen ∧ _ := by
            obtain ⟨ks, ls, e, -, -, -, -, h5⟩ := hI.2.2.2.1
            simp only [Value.agg.injEq, Array.mk.injEq, List.cons.injEq, and_true] at e
            obtain ⟨-, -, -, -, rfl⟩ := e
            exact vals_at h5 hltb
          unfold maxLen at z2 z5
          have x4 := hI.1.c.2.2.2.2.1
          have y4 := hI.2.1.c.2.2.2.2.1
          have CALL : Hid (∀ w', Below wr.heap.size wr w' → Calls Tryd.prog 6 #[.agg #[.int .i64 a.l[k'].kind, .int .i64 a.l[k'].n, .string ⟨a.l[k'].s.toArray⟩, .slice a5 a.l[k'].keys.length c5, .slice a6 a.l[k'].l.length c6], .agg #[.int .i64 b.l[k'].kind, .int .i64 b.l[k'].n, .string ⟨b.l[k'].s.toArray⟩, .slice a5' b.l[k'].keys.length c5', .slice a6' b.l[k'].l.length c6']] w' fun e w3 => e = .returned (.bool (sameS d a.l[k'] b.l[k'])) ∧ Below wr.heap.size wr w3 ∧
              w3.cell? ⟨w.heap.size, 4, none⟩ = some (.slice (some ⟨g1, o1, none⟩) a.l.length c2) ∧ w3.cell? ⟨w.heap.size + 1, 4, none⟩ = some (.slice (some ⟨g2, o2, none⟩) a.l.length d2) ∧
              w3.cell? ⟨g1, o1 + k' * 5, none⟩ = some (.int .i64 a.l[k'].kind) ∧ w3.cell? ⟨g1, o1 + k' * 5 + 1, none⟩ = some (.int .i64 a.l[k'].n) ∧ w3.cell? ⟨g1, o1 + k' * 5 + 2, none⟩ = some (.string ⟨a.l[k'].s.toArray⟩) ∧ w3.cell? ⟨g1, o1 + k' * 5 + 3, none⟩ = some (.slice a5 a.l[k'].keys.length c5) ∧ w3.cell? ⟨g1, o1 + k' * 5 + 4, none⟩ = some (.slice a6 a.l[k'].l.length c6) ∧
              w3.cell? ⟨g2, o2 + k' * 5, none⟩ = some (.int .i64 b.l[k'].kind) ∧ w3.cell? ⟨g2, o2 + k' * 5 + 1, none⟩ = some (.int .i64 b.l[k'].n) ∧ w3.cell? ⟨g2, o2 + k' * 5 + 2, none⟩ = some (.string ⟨b.l[k'].s.toArray⟩) ∧ w3.cell? ⟨g2, o2 + k' * 5 + 3, none⟩ = some (.slice a5' b.l[k'].keys.length c5') ∧ w3.cell? ⟨g2, o2 + k' * 5 + 4, none⟩ = some (.slice a6' b.l[k'].l.length c6')) := by
            intro w' hb'
            refine (IH.out w' ok ok' a.l[k'] b.l[k'] _ _ (p5.bel hb') (q5.bel hb')).mono ?_
            rintro e w3 ⟨rfl, hb3⟩
            have hb4 := bel_trans hb' hb3
            exact ⟨rfl, hb4, cell_bel hb4 x4, cell_bel hb4 y4, cell_bel hb4 p0, cell_bel hb4 p1, cell_bel hb4 p2, cell_bel hb4 p3, cell_bel hb4 p4, cell_bel hb4 q0, cell_bel hb4 q1, cell_bel hb4 q2, cell_bel hb4 q3, cell_bel hb4 q4⟩
          clear hI p5 q5
          go_wp2_with fail
          go_region_held3 (fun w3 => w3.cell? ⟨w.heap.size, 4, none⟩ = some (.slice (some ⟨g1, o1, none⟩) a.l.length c2) ∧ w3.cell? ⟨w.heap.size + 1, 4, none⟩ = some (.slice (some ⟨g2, o2, none⟩) a.l.length d2) ∧
              w3.cell? ⟨g1, o1 + k' * 5, none⟩ = some (.int .i64 a.l[k'].kind) ∧ w3.cell? ⟨g1, o1 + k' * 5 + 1, none⟩ = some (.int .i64 a.l[k'].n) ∧ w3.cell? ⟨g1, o1 + k' * 5 + 2, none⟩ = some (.string ⟨a.l[k'].s.toArray⟩) ∧ w3.cell? ⟨g1, o1 + k' * 5 + 3, none⟩ = some (.slice a5 a.l[k'].keys.length c5) ∧ w3.cell? ⟨g1, o1 + k' * 5 + 4, none⟩ = some (.slice a6 a.l[k'].l.length c6) ∧
              w3.cell? ⟨g2, o2 + k' * 5, none⟩ = some (.int .i64 b.l[k'].kind) ∧ w3.cell? ⟨g2, o2 + k' * 5 + 1, none⟩ = some (.int .i64 b.l[k'].n) ∧ w3.cell? ⟨g2, o2 + k' * 5 + 2, none⟩ = some (.string ⟨b.l[k'].s.toArray⟩) ∧ w3.cell? ⟨g2, o2 + k' * 5 + 3, none⟩ = some (.slice a5' b.l[k'].keys.length c5') ∧ w3.cell? ⟨g2, o2 + k' * 5 + 4, none⟩ = some (.slice a6' b.l[k'].l.length c6')) (go_keep)
            (first | (go_at_call 6; refine (CALL.out _ (by exact ⟨rfl, rfl, rfl, Nat.le_refl _, fun _ _ => rfl⟩)).mono ?_; rintro e w3 ⟨rfl, hb3, s1, s2, s3, s4, s5, s6, s7, s8, s9, s10, s11, s12⟩))
          all_goals
            have A3 := hidI (A.out.2.below hb3)
            clear s1 s2 s3 s4 s5 s6 s7 s8 s9 s10 s11 s12 hb3 p0 p1 p2 p3 p4 q0 q1 q2 q3 q4 x4 y4
            cases hr : sameS d a.l[k'] b.l[k'] with
            | true =>
              have HR := hidI hr
              clear hr
              go_wp2_with fail
              go_roundg (a.l.length - (k' + 1))
              case measure => omega
              case rel =>
                refine ⟨k' + 1, hlt', rfl, by go_num, ?_, A3.out⟩
                intro j x y hj hx hy
                by_cases hjk : j < k'
                · exact A.out.1 j x y hjk hx hy
                · have : j = k' := by omega
                  subst this
                  rw [List.getElem?_eq_getElem hlt'] at hx
                  rw [List.getElem?_eq_getElem hltb] at hy
                  cases hx
                  cases hy
                  exact HR.out
            | false =>
              have HR := hidI hr
              clear hr
              go_wp2_with fail
              go_ret
              refine ⟨?_, A3.out.2.2.2.2⟩
              have hno : allS (sameS d) a.l b.l = false := by
                cases h9 : allS (sameS d) a.l b.l with
                | false => rfl
                | true =>
                  have := (allS_iff _ _).1 h9 k' _ _ (List.getElem?_eq_getElem hlt') (List.getElem?_eq_getElem hltb)
                  rw [HR.out] at this
                  cases this
              rw [FS.out, hno, Bool.and_false]
              rfl
        · have A3 := hidI A.out
          clear hI A
          go_wp2_with fail
          go_ret
          refine ⟨?_, A3.out.2.2.2.2.2⟩
          have hyes : allS (sameS d) a.l b.l = true := (allS_iff _ _).2 fun j x y hx hy => A3.out.1 j x y (by have := (List.getElem?_eq_some_iff.1 hx).1; omega) hx hy
          rw [FS.out, hyes, hke.out]
          simp
theorem rsame_all (d : Nat) : RSameC d := by
  induction d with
  | zero => exact fun _ _ _ _ _ _ _ h => h.elim
  | succ d ih => exact rsame_succ d ih
theorem allS_eq {f : V → V → Bool} : ∀ (l m : List V), l.length = m.length → (∀ x ∈ l, ∀ y, f x y = true ↔ x = y) → (allS f l m = true ↔ l = m)
  | [], [], _, _ => by simp [allS]
  | [], _ :: _, h, _ => by simp at h
  | _ :: _, [], h, _ => by simp at h
  | x :: l, y :: m, h, hf => by
    rw [allS, Bool.and_eq_true, hf x (by simp) y, allS_eq l m (by simpa using h) fun z hz => hf z (by simp [hz]), List.cons.injEq]
theorem sameS_iff (d : Nat) : ∀ (a b : V), Dep d a → (sameS d a b = true ↔ a = b) := by
  induction d with
  | zero => intro a b h; exact h.elim
  | succ d ih =>
    intro a b h
    simp only [sameS, Bool.and_eq_true, decide_eq_true_eq]
    constructor
    · rintro ⟨⟨⟨⟨⟨h1, h2⟩, h3⟩, h4⟩, h5⟩, h6⟩
      have e := (allS_eq a.l b.l h5 fun x hx y => ih x y (h x hx)).1 h6
      rw [← V_eta a, ← V_eta b, h1, h2, h3, h4, e]
    · rintro rfl
      exact ⟨⟨⟨⟨⟨rfl, rfl⟩, rfl⟩, rfl⟩, rfl⟩, (allS_eq a.l a.l rfl fun x hx y => ih x y (h x hx)).2 rfl⟩
theorem vis_deep {w : World} {ok : Nat → Prop} : ∀ (d : Nat) {t : V} {v : Value}, VIs w ok d t v → Dep d t
  | 0, _, _, h => h.elim
  | d + 1, t, v, h => by
    obtain ⟨ks, ls, e, h1, h2, h3, h4, h5⟩ := h
    intro x hx
    obtain ⟨y, hy⟩ := vals_mem h5 hx
    exact vis_deep d hy
open Classical in
theorem rsame_is (w : World) (ok ok' : Nat → Prop) (a b : V) (va vb : Value) (ha : In w ok a va) (hb : In w ok' b vb) :
    Calls Tryd.prog 6 #[va, vb] w fun e w' => e = .returned (.bool (decide (a = b))) ∧ Below w.heap.size w w' := by
  obtain ⟨d, ha⟩ := ha
  obtain ⟨d', hb⟩ := hb
  have h1 := VIs.le (show d ≤ d + d' by omega) ha
  refine (rsame_all (d + d') w _ _ a b va vb h1 (VIs.le (by omega) hb)).mono ?_
  rintro e w' ⟨rfl, hb⟩
  refine ⟨?_, hb⟩
  congr 2
  rw [Bool.eq_iff_iff, sameS_iff _ a b (vis_deep _ h1)]; simp
end Go.Proofs.YtkboplcffailoaaDoor

/- What reads reads, and what it shows. -/
set_option linter.unusedSimpArgs false
set_option linter.unusedVariables false
namespace Go.Proofs.YtkboplcffailoaaDoor
open Go.RowKit

def readL : List UInt8 := [32, 123, 34, 98, 34, 58, 32, 91, 49, 44, 32, 110, 117, 108, 108, 93, 44, 32, 34, 97, 34, 58, 32, 34, 120, 92, 117, 48, 48, 52, 49, 34, 125]
def shownL : List UInt8 := [123, 34, 97, 34, 58, 34, 120, 65, 34, 44, 34, 98, 34, 58, 91, 49, 44, 110, 117, 108, 108, 93, 125]
theorem read_ok : (parseS readL).2 = 0 := by decide +kernel
theorem shown_ok : printR 2003 (parseS readL).1 = (shownL, 0) := by decide +kernel

end Go.Proofs.YtkboplcffailoaaDoor

/- That reads of package stairwelllaw answers yes. -/
set_option linter.unusedSimpArgs false
set_option linter.unusedVariables false
namespace Go.Proofs.YtkboplcffailoaaDoor
open Go.RowKit

set_option maxRecDepth 100000 in
set_option maxHeartbeats 4000000 in
theorem lreads_at (w : World) (hG : Glob w) :
    Calls Tryd.prog 7 #[] w fun e w' => e = .returned (.bool true) ∧ Below w.heap.size w w' := by
  have HG := hidI hG
  clear hG
  go_enter Tryd.func7, Tryd.ntmps7
  go_wp2_with fail
  refine (parse_at _ readL (by decide) HG.out).mono ?_
  rintro e w1 ⟨t, ee, a7, a8, c7, c8, rfl, hp, hv, hb⟩
  have h0 := read_ok
  have h1 := shown_ok
  rw [hp] at h0 h1
  simp only at h0 h1
  subst h0
  have HP := hidI h1
  have HV := hidI hv
  have HB := hidI hb
  have HG1 : Hid (Glob w1) := HG.out.grown (gb_below (r := none) hb) (by simp)
  clear hp hv hb h1
  go_wp2_with fail
  refine (Print_at _ _ 2003 t _ (by exact HV.out.bel (bel_alloc _ _)) (by exact HG1.out.grown (World.grownBy_alloc _ _ none) (by simp))).mono ?_
  rintro e w2 ⟨l, ef, rfl, hq, hb2⟩
  rw [HP.out] at hq
  simp only [Prod.mk.injEq] at hq
  obtain ⟨rfl, rfl⟩ := hq
  have B2 := hidI (bel_trans HB.out (bel_trans (bel_alloc _ _) hb2))
  clear hb2
  have hs : (ByteArray.mk shownL.toArray == ByteArray.mk #[123, 34, 97, 34, 58, 34, 120, 65, 34, 44, 34, 98, 34, 58, 91, 49, 44, 110, 117, 108, 108, 93, 125]) = true := ba_eq rfl
  go_wp2_with fail
  go_ret
  exact ⟨rfl, B2.out⟩
end Go.Proofs.YtkboplcffailoaaDoor

/- What ParseText of package stairwellref does, and the law JsonParses. -/
set_option linter.unusedSimpArgs false
set_option linter.unusedVariables false
namespace Go.Proofs.YtkboplcffailoaaDoor
open Go.RowKit

theorem rval_all : ∀ (D : Nat), D ≤ 12 → RVal D
  | 0, _ => rval_zero
  | D + 1, h => rval_succ D (rval_all D (by omega)) (by omega)

theorem parseR_none {s : List UInt8} (h : ¬ 2000 < s.length) (hv : valR 12 s = none) : parseR s = (leafV 0 0 [], 1) := by
  unfold parseR; rw [if_neg h, hv]
theorem parseR_some {s : List UInt8} {p : V × List UInt8} (h : ¬ 2000 < s.length) (hv : valR 12 s = some p) (hc : p.2.dropWhile isSp = [] ∧ goodV p.1 = true) : parseR s = (p.1, 0) := by
  unfold parseR; rw [if_neg h, hv]; simp only; rw [if_pos hc]
theorem parseR_bad {s : List UInt8} {p : V × List UInt8} (h : ¬ 2000 < s.length) (hv : valR 12 s = some p) (hc : ¬ (p.2.dropWhile isSp = [] ∧ goodV p.1 = true)) : parseR s = (leafV 0 0 [], 1) := by
  unfold parseR; rw [if_neg h, hv]; simp only; rw [if_neg hc]

open Classical in
set_option maxRecDepth 100000 in
set_option maxHeartbeats 8000000 in
theorem rparse_is (w : World) (s : List UInt8) (_ : s.length ≤ 140737488351232) :
    Calls Tryd.prog 5 #[str s] w fun e w' => ∃ r, e = .returned (.tuple #[r, .int .i64 (parseR s).2]) ∧ Below w.heap.size w w' ∧ In w' (fun k => w.heap.size ≤ k) (parseR s).1 r := by
  unfold str
  by_cases h2 : 2000 < s.length
  · have g2 : (2000 : Int) < (s.length : Int) := by omega
    have RS : Hid (parseR s = (leafV 0 0 [], 2)) := hidI (by unfold parseR; rw [if_pos h2])
    clear h2
    go_enter Tryd.func5, Tryd.ntmps5
    go_upto_region 1 with fail
    obtain ⟨W0, hW0⟩ : ∃ W, w.alloc (.cells #[.int .i64 0, .int .i64 0, .string ⟨#[]⟩, .slice none 0 0, .slice none 0 0] 25) = W := ⟨_, rfl⟩
    have KB : Hid (BoxIs W0 w.heap.size (.int .i64 0) (.int .i64 0) (.string ⟨#[]⟩) (.slice none 0 0) (.slice none 0 0) ∧ Below w.heap.size w W0) := hidI (by rw [← hW0]; exact ⟨heap_alloc_new w _, bel_alloc _ _⟩)
    try rw [hW0]
    clear hW0
    obtain ⟨x0, x1, x2, x3, x4, y0, y1, y2, y3, y4⟩ := KB.out.1.c
    have R := hidI (And.intro (bel_set5 KB.out.2 (Nat.le_refl _) (.int .i64 0) (.int .i64 0) (.string ⟨#[]⟩) (.slice none 0 0) (.slice none 0 0)) (KB.out.1.set (.int .i64 0) (.int .i64 0) (.string ⟨#[]⟩) (.slice none 0 0) (.slice none 0 0)))
    go_wp2_with fail
    obtain ⟨r1, r3⟩ := R.out
    obtain ⟨z0, z1, z2, z3, z4, -⟩ := r3.c
    refine bodyPost_ret (v := .tuple #[.agg #[.int .i64 0, .int .i64 0, .string ⟨#[]⟩, .slice none 0 0, .slice none 0 0], .int .i64 2]) ?_ rfl ?_
    · simp only [set5] at z0 z1 z2 z3 z4
      simp [results, Tryd.results5, go_sem, z0, z1, z2, z3, z4]
    · exact ⟨_, by rw [RS.out], r1, by rw [RS.out]; exact in_zero _ _⟩
  · have g2 : ¬ (2000 : Int) < (s.length : Int) := by omega
    have hs : s.length ≤ 2000 := by omega
    have H2 := hidI h2
    clear h2
    go_enter Tryd.func5, Tryd.ntmps5
    go_upto_region 1 with fail
    obtain ⟨W0, hW0⟩ : ∃ W, w.alloc (.cells #[.int .i64 0, .int .i64 0, .string ⟨#[]⟩, .slice none 0 0, .slice none 0 0] 25) = W := ⟨_, rfl⟩
    have KB : Hid (BoxIs W0 w.heap.size (.int .i64 0) (.int .i64 0) (.string ⟨#[]⟩) (.slice none 0 0) (.slice none 0 0) ∧ Below w.heap.size w W0) := hidI (by rw [← hW0]; exact ⟨heap_alloc_new w _, bel_alloc _ _⟩)
    try rw [hW0]
    clear hW0
    go_wp2_with fail
    refine (rval_all 12 (Nat.le_refl _) _ s 0 1 (by decide) hs (Nat.zero_le _)).mono ?_
    rintro e w3 ⟨hb3, hv3⟩
    rw [List.drop_zero] at hv3
    cases hvr : valR 12 s with
    | none =>
      rw [hvr] at hv3
      obtain ⟨k9, n9, ss9, a7, a8, l7, c7, l8, c8, rfl⟩ := hv3
      have RS : Hid (parseR s = (leafV 0 0 [], 1)) := hidI (parseR_none H2.out hvr)
      have K4 : Hid (BoxIs (w3.alloc (.cells #[.int .i64 k9, .int .i64 n9, .string ⟨ss9.toArray⟩, .slice a7 l7 c7, .slice a8 l8 c8] 25)) w.heap.size (.int .i64 0) (.int .i64 0) (.string ⟨#[]⟩) (.slice none 0 0) (.slice none 0 0) ∧ Below w.heap.size w (w3.alloc (.cells #[.int .i64 k9, .int .i64 n9, .string ⟨ss9.toArray⟩, .slice a7 l7 c7, .slice a8 l8 c8] 25))) := hidI ⟨box_bel (bel_trans hb3 (bel_alloc _ _)) KB.out.1, bel_trans KB.out.2 (bel_trans hb3 (bel_alloc _ _))⟩
      clear hvr hb3
      obtain ⟨x0, x1, x2, x3, x4, y0, y1, y2, y3, y4⟩ := K4.out.1.c
      have R := hidI (And.intro (bel_set5 K4.out.2 (Nat.le_refl _) (.int .i64 0) (.int .i64 0) (.string ⟨#[]⟩) (.slice none 0 0) (.slice none 0 0)) (K4.out.1.set (.int .i64 0) (.int .i64 0) (.string ⟨#[]⟩) (.slice none 0 0) (.slice none 0 0)))
      go_wp2_with fail
      obtain ⟨r1, r3⟩ := R.out
      obtain ⟨z0, z1, z2, z3, z4, -⟩ := r3.c
      refine bodyPost_ret (v := .tuple #[.agg #[.int .i64 0, .int .i64 0, .string ⟨#[]⟩, .slice none 0 0, .slice none 0 0], .int .i64 1]) ?_ rfl ?_
      · simp only [set5] at z0 z1 z2 z3 z4
        simp [results, Tryd.results5, go_sem, z0, z1, z2, z3, z4]
      · exact ⟨_, by rw [RS.out], r1, by rw [RS.out]; exact in_zero _ _⟩
    | some p =>
      obtain ⟨x, r2⟩ := p
      rw [hvr] at hv3
      obtain ⟨a7, a8, c7, c8, j, rfl, hj1, hj2, hx⟩ := hv3
      simp only at hj2 hx
      have XV := hidI (hx.bel (bel_alloc w3 (.cells #[.int .i64 x.kind, .int .i64 x.n, .string ⟨x.s.toArray⟩, .slice a7 x.keys.length c7, .slice a8 x.l.length c8] 25))).is
      have HJ := hidI hj2
      have XC9 : Hid (cnt x ≤ 1000000000000000) := hidI (by have := val_cnt 12 _ _ _ hvr; omega)
      have SB : Hid (w.heap.size < W0.heap.size) := hidI KB.out.1.lt
      have K4 : Hid (BoxIs (w3.alloc (.cells #[.int .i64 x.kind, .int .i64 x.n, .string ⟨x.s.toArray⟩, .slice a7 x.keys.length c7, .slice a8 x.l.length c8] 25)) w.heap.size (.int .i64 0) (.int .i64 0) (.string ⟨#[]⟩) (.slice none 0 0) (.slice none 0 0) ∧ Below w.heap.size w (w3.alloc (.cells #[.int .i64 x.kind, .int .i64 x.n, .string ⟨x.s.toArray⟩, .slice a7 x.keys.length c7, .slice a8 x.l.length c8] 25))) := hidI ⟨box_bel (bel_trans hb3 (bel_alloc _ _)) KB.out.1, bel_trans KB.out.2 (bel_trans hb3 (bel_alloc _ _))⟩
      have BX : Hid (BoxIs (w3.alloc (.cells #[.int .i64 x.kind, .int .i64 x.n, .string ⟨x.s.toArray⟩, .slice a7 x.keys.length c7, .slice a8 x.l.length c8] 25)) w3.heap.size (.int .i64 x.kind) (.int .i64 x.n) (.string ⟨x.s.toArray⟩) (.slice a7 x.keys.length c7) (.slice a8 x.l.length c8)) := hidI (heap_alloc_new w3 _)
      have HVR := hidI hvr
      clear hvr hb3 hj2 hx
      simp only
      have nj : ¬ (j : Int) < 0 := by omega
      go_wp2_with fail
      refine (skip_at _ s j hs hj1).mono ?_
      rintro e w4 ⟨k4, rfl, hk4, hk5, hk6, rfl⟩
      by_cases hend : k4 = s.length
      · have e1 : ((k4 : Int) == (s.length : Int)) = true := by rw [hend]; simp
        have e2 : ((k4 : Int) != (s.length : Int)) = false := by rw [hend]; simp
        have DE : Hid (r2.dropWhile isSp = []) := hidI (by rw [← HJ.out, ← hk6, hend, List.drop_length])
        clear hend hk6
        obtain ⟨f0, f1, f2, f3, f4, -⟩ := BX.out.c
        go_wp2_with fail
        refine (rgood_is _ _ x _ (by exact XV.out) XC9.out).mono ?_
        rintro e w5 ⟨rfl, hb5⟩
        have K5 : Hid (BoxIs w5 w.heap.size (.int .i64 0) (.int .i64 0) (.string ⟨#[]⟩) (.slice none 0 0) (.slice none 0 0) ∧ Below w.heap.size w w5) := hidI ⟨box_bel hb5 K4.out.1, bel_trans K4.out.2 hb5⟩
        have BX5 := hidI (box_bel hb5 BX.out)
        have XV5 := hidI (XV.out.bel hb5)
        clear hb5 f0 f1 f2 f3 f4
        obtain ⟨x0, x1, x2, x3, x4, y0, y1, y2, y3, y4⟩ := K5.out.1.c
        cases hg : goodV x with
        | true =>
          have RS : Hid (parseR s = (x, 0)) := hidI (parseR_some H2.out HVR.out ⟨DE.out, hg⟩)
          clear hg
          obtain ⟨f0, f1, f2, f3, f4, -⟩ := BX5.out.c
          have g1 := set5_gb w5 w.heap.size (.int .i64 x.kind) (.int .i64 x.n) (.string ⟨x.s.toArray⟩) (.slice a7 x.keys.length c7) (.slice a8 x.l.length c8)
          have ZZ := hidI ((XV5.out.grown g1 (fun k hk => by have := SB.out; omega)).weak (ok' := fun k => w.heap.size ≤ k) (fun k hk => by have := SB.out; omega))
          have R := hidI (And.intro (bel_set5 K5.out.2 (Nat.le_refl _) (.int .i64 x.kind) (.int .i64 x.n) (.string ⟨x.s.toArray⟩) (.slice a7 x.keys.length c7) (.slice a8 x.l.length c8)) (K5.out.1.set (.int .i64 x.kind) (.int .i64 x.n) (.string ⟨x.s.toArray⟩) (.slice a7 x.keys.length c7) (.slice a8 x.l.length c8)))
          clear g1
          go_wp2_with fail
          obtain ⟨r1, r3⟩ := R.out
          obtain ⟨z0, z1, z2, z3, z4, -⟩ := r3.c
          refine bodyPost_ret (v := .tuple #[.agg #[.int .i64 x.kind, .int .i64 x.n, .string ⟨x.s.toArray⟩, .slice a7 x.keys.length c7, .slice a8 x.l.length c8], .int .i64 0]) ?_ rfl ?_
          · simp only [set5] at z0 z1 z2 z3 z4
            simp [results, Tryd.results5, go_sem, z0, z1, z2, z3, z4]
          · exact ⟨_, by rw [RS.out], r1, by rw [RS.out]; exact ZZ.out⟩
        | false =>
          have RS : Hid (parseR s = (leafV 0 0 [], 1)) := hidI (parseR_bad H2.out HVR.out (fun h => by have h9 := h.2; rw [hg] at h9; cases h9))
          clear hg
          have R := hidI (And.intro (bel_set5 K5.out.2 (Nat.le_refl _) (.int .i64 0) (.int .i64 0) (.string ⟨#[]⟩) (.slice none 0 0) (.slice none 0 0)) (K5.out.1.set (.int .i64 0) (.int .i64 0) (.string ⟨#[]⟩) (.slice none 0 0) (.slice none 0 0)))
          go_wp2_with fail
          obtain ⟨r1, r3⟩ := R.out
          obtain ⟨z0, z1, z2, z3, z4, -⟩ := r3.c
          refine bodyPost_ret (v := .tuple #[.agg #[.int .i64 0, .int .i64 0, .string ⟨#[]⟩, .slice none 0 0, .slice none 0 0], .int .i64 1]) ?_ rfl ?_
          · simp only [set5] at z0 z1 z2 z3 z4
            simp [results, Tryd.results5, go_sem, z0, z1, z2, z3, z4]
          · exact ⟨_, by rw [RS.out], r1, by rw [RS.out]; exact in_zero _ _⟩
      · have e1 : ((k4 : Int) == (s.length : Int)) = false := by rw [beq_eq_false_iff_ne]; omega
        have e2 : ((k4 : Int) != (s.length : Int)) = true := by rw [bne_iff_ne]; omega
        have RS : Hid (parseR s = (leafV 0 0 [], 1)) := hidI (by
          refine parseR_bad H2.out HVR.out ?_
          intro h
          have h9 := congrArg List.length hk6
          rw [HJ.out, h.1, List.length_drop] at h9
          simp at h9
          omega)
        clear hend hk6
        obtain ⟨x0, x1, x2, x3, x4, y0, y1, y2, y3, y4⟩ := K4.out.1.c
        have R := hidI (And.intro (bel_set5 K4.out.2 (Nat.le_refl _) (.int .i64 0) (.int .i64 0) (.string ⟨#[]⟩) (.slice none 0 0) (.slice none 0 0)) (K4.out.1.set (.int .i64 0) (.int .i64 0) (.string ⟨#[]⟩) (.slice none 0 0) (.slice none 0 0)))
        go_wp2_with fail
        obtain ⟨r1, r3⟩ := R.out
        obtain ⟨z0, z1, z2, z3, z4, -⟩ := r3.c
        refine bodyPost_ret (v := .tuple #[.agg #[.int .i64 0, .int .i64 0, .string ⟨#[]⟩, .slice none 0 0, .slice none 0 0], .int .i64 1]) ?_ rfl ?_
        · simp only [set5] at z0 z1 z2 z3 z4
          simp [results, Tryd.results5, go_sem, z0, z1, z2, z3, z4]
        · exact ⟨_, by rw [RS.out], r1, by rw [RS.out]; exact in_zero _ _⟩

open Classical in
set_option maxRecDepth 100000 in
set_option maxHeartbeats 8000000 in
theorem jsonParses_walk (w : World) (s : List UInt8) (hs : s.length ≤ 140737488351232) (hG : Glob w) :
    Calls Tryd.prog 3 #[str s] w fun e w' => e = .returned (.bool true) ∧ Below w.heap.size w w' := by
  have HG := hidI hG
  clear hG
  obtain ⟨pr, hpr⟩ : ∃ pr, parseS s = pr := ⟨_, rfl⟩
  obtain ⟨t, ee⟩ := pr
  have HP := hidI hpr
  have HQ : Hid (parseR s = (t, ee)) := hidI (by rw [parseR_eq]; exact hpr)
  clear hpr
  go_enter Tryd.func3, Tryd.ntmps3
  unfold str
  go_wp2_with fail
  refine (parse_at _ s (by unfold maxLen; omega) (by exact HG.out)).mono ?_
  rintro e w1 ⟨t1, e1, a7, a8, c7, c8, rfl, hq, hv, hb⟩
  rw [HP.out] at hq
  simp only [Prod.mk.injEq] at hq
  obtain ⟨h1, h2⟩ := hq
  subst h1
  subst h2
  have K1 : Hid (BoxIs (w1.alloc (.cells #[.int .i64 t.kind, .int .i64 t.n, .string ⟨t.s.toArray⟩, .slice a7 t.keys.length c7, .slice a8 t.l.length c8] 25)) w1.heap.size (.int .i64 t.kind) (.int .i64 t.n) (.string ⟨t.s.toArray⟩) (.slice a7 t.keys.length c7) (.slice a8 t.l.length c8) ∧ In (w1.alloc (.cells #[.int .i64 t.kind, .int .i64 t.n, .string ⟨t.s.toArray⟩, .slice a7 t.keys.length c7, .slice a8 t.l.length c8] 25)) (fun _ => True) t (.agg #[.int .i64 t.kind, .int .i64 t.n, .string ⟨t.s.toArray⟩, .slice a7 t.keys.length c7, .slice a8 t.l.length c8]) ∧ Below w.heap.size w (w1.alloc (.cells #[.int .i64 t.kind, .int .i64 t.n, .string ⟨t.s.toArray⟩, .slice a7 t.keys.length c7, .slice a8 t.l.length c8] 25))) := hidI ⟨heap_alloc_new w1 _, (hv.is.weak fun _ _ => trivial).bel (bel_alloc _ _), bel_trans hb (bel_alloc _ _)⟩
  clear hv hb
  go_wp2_with fail
  refine (rparse_is _ s hs).mono ?_
  rintro e w2 ⟨r, rfl, hb, hr⟩
  rw [HQ.out] at hr ⊢
  simp only at hr ⊢
  obtain ⟨b7, b8, d7, d8, rfl⟩ := hr.form
  have hbb := bel_trans hb (bel_alloc w2 (.cells #[.int .i64 t.kind, .int .i64 t.n, .string ⟨t.s.toArray⟩, .slice b7 t.keys.length d7, .slice b8 t.l.length d8] 25))
  have K2 : Hid (BoxIs (w2.alloc (.cells #[.int .i64 t.kind, .int .i64 t.n, .string ⟨t.s.toArray⟩, .slice b7 t.keys.length d7, .slice b8 t.l.length d8] 25)) w1.heap.size (.int .i64 t.kind) (.int .i64 t.n) (.string ⟨t.s.toArray⟩) (.slice a7 t.keys.length c7) (.slice a8 t.l.length c8) ∧ BoxIs (w2.alloc (.cells #[.int .i64 t.kind, .int .i64 t.n, .string ⟨t.s.toArray⟩, .slice b7 t.keys.length d7, .slice b8 t.l.length d8] 25)) w2.heap.size (.int .i64 t.kind) (.int .i64 t.n) (.string ⟨t.s.toArray⟩) (.slice b7 t.keys.length d7) (.slice b8 t.l.length d8) ∧ In (w2.alloc (.cells #[.int .i64 t.kind, .int .i64 t.n, .string ⟨t.s.toArray⟩, .slice b7 t.keys.length d7, .slice b8 t.l.length d8] 25)) (fun _ => True) t (.agg #[.int .i64 t.kind, .int .i64 t.n, .string ⟨t.s.toArray⟩, .slice a7 t.keys.length c7, .slice a8 t.l.length c8]) ∧ In (w2.alloc (.cells #[.int .i64 t.kind, .int .i64 t.n, .string ⟨t.s.toArray⟩, .slice b7 t.keys.length d7, .slice b8 t.l.length d8] 25)) (fun _ => True) t (.agg #[.int .i64 t.kind, .int .i64 t.n, .string ⟨t.s.toArray⟩, .slice b7 t.keys.length d7, .slice b8 t.l.length d8]) ∧ Below w.heap.size w (w2.alloc (.cells #[.int .i64 t.kind, .int .i64 t.n, .string ⟨t.s.toArray⟩, .slice b7 t.keys.length d7, .slice b8 t.l.length d8] 25))) := hidI ⟨box_bel hbb K1.out.1, heap_alloc_new w2 _, K1.out.2.1.bel hbb, (hr.weak fun _ _ => trivial).bel (bel_alloc _ _), bel_trans K1.out.2.2 hbb⟩
  clear hb hr hbb K1
  obtain ⟨k0, k1, k2, k3, k4, -⟩ := K2.out.1.c
  obtain ⟨l0, l1, l2, l3, l4, -⟩ := K2.out.2.1.c
  go_wp2_with fail
  refine (rsame_is _ _ _ t t _ _ (by exact K2.out.2.2.1) (by exact K2.out.2.2.2.1)).mono ?_
  rintro e w3 ⟨rfl, hb⟩
  rw [show decide (t = t) = true from decide_eq_true rfl]
  have B3 := hidI (bel_trans K2.out.2.2.2.2 hb)
  clear hb k0 k1 k2 k3 k4 l0 l1 l2 l3 l4
  go_wp2_with fail
  refine (lreads_at _ (by exact HG.out.grown (gb_below (r := none) B3.out) (by simp))).mono ?_
  rintro e w4 ⟨rfl, hb⟩
  have B4 := hidI (bel_trans B3.out hb)
  clear hb
  go_wp2_with fail
  go_ret
  exact ⟨rfl, B4.out⟩
end Go.Proofs.YtkboplcffailoaaDoor

set_option linter.unusedSimpArgs false
set_option linter.unusedVariables false
namespace Go.Proofs.YtkboplcffailoaaDoor.jsonParses
open Go.ChangeShapes Go.WideShapes Go.ChangeAt Go.RowKit
open Go.ChangeMaps (open_string shut_string)

set_option maxRecDepth 100000 in
theorem contract (H : Type) (enc : TypeId × Value → H) (W : World) (base : Nat) (args : Array Value) (ds gs : List (DataW H)) (before : List MemPlace)
    (hval : ∀ (j : Nat) t v, Tryd.f3.params[j]? = some t → args[j]? = some v → Value.okWide Tryd.prog W .any base t v)
    (hW : DataW.Whole enc Tryd.prog Tryd.f3.params.toList Rows.jsonParsesSpec.vars false W args.toList ds gs before)
    (hZ : (DataW.weightsEach Tryd.prog (Tryd.f3.params.toList ++ (OpenSpec.ofChange Rows.jsonParsesSpec).bare.plain.varTypes Tryd.prog) (ds ++ gs)).all (· ≤ reachBytes) = true) (hL : laidMet Tryd.prog laidAll W) :
    Calls Tryd.prog 3 args W fun e W' => ∃ v, e = .returned v ∧ Rows.jsonParsesSpec.post enc Tryd.prog Tryd.f3 false true false false W args v W' := by
  have hW' := hW
  obtain ⟨p, q, hA0, hV, rfl, hfz, hnd⟩ := hW
  have hA : DataW.TrodAll enc Tryd.prog W 0 (fun _ => true) true Tryd.f3.params.toList args.toList ds p := hA0
  rw [Tryd.params3] at hA hval
  obtain ⟨v0, vs0, d0, ds0, p0, q0, hargs0, rfl, rfl, h0, r0⟩ := trodAll_cons hA
  obtain ⟨rfl, rfl, rfl⟩ := trodAll_nil r0
  have hargs : args = #[v0] := by
    obtain ⟨l⟩ := args
    exact congrArg Array.mk hargs0
  subst hargs
  obtain ⟨rfl, rfl⟩ := trodVars_none hV
  have k0 : Value.okWide Tryd.prog W .any base 9 v0 := hval 0 _ _ (by simp) (by simp)
  obtain ⟨s0, rfl, rfl, rfl, ws0⟩ := open_string Tryd.underlying9 k0 h0
  clear hA0
  simp only [List.append_nil] at hW'
  have l0 : s0.data.toList.length ≤ 140737488351232 := sized_string (j := 0) hZ (by rw [Tryd.params3]; rfl) rfl
  have e0 : Value.string s0 = str s0.data.toList := by unfold str; cases s0; simp
  have walk := jsonParses_walk W s0.data.toList l0 (glob_of hL)
  rw [← e0] at walk
  refine walk.mono fun e W' ⟨he, hg⟩ => ?_
  subst he
  have ef : Rows.jsonParsesSpec.fn H ([.lit (.string s0.data.toList)] ++ []) = { results := [.lit (.bool true)], args := [.lit (.string s0.data.toList)] } := rfl
  refine ⟨_, rfl, _, _, _, [], ([] ++ []), [], hW', ?_, ?_, ?_, hg.frame _, fun h => by cases h⟩
  · rw [ef]; exact trodAll_mk1 (shut_bool Tryd.underlying4 _)
  · rw [ef, Tryd.params3]; exact trodAll_cons_mk (shut_string Tryd.underlying9 ws0) (trodAll_mk0)
  · rw [ef]; rfl

set_option maxRecDepth 100000 in
theorem reads (os : Os) {H : Type} (enc : TypeId × Value → H) : ∃ places, DataW.whole enc Tryd.prog ((laidWorld os).forCall (fun _ _ => 0) ⟨#[], #[.string ⟨#[]⟩], []⟩).memory Tryd.f3.params.toList Rows.jsonParsesSpec.vars false #[Value.string ⟨#[]⟩].toList 8 = some ([.lit (.string [])], [], places) :=
  ⟨[], by kernel_rfl⟩

set_option maxRecDepth 100000 in
theorem lifted (os : Os) (started : os.Started) (H : Type) (enc : TypeId × Value → H) (F : Stop.Interp) :
    ReturnsInHanded {} Tryd.checked os 3 .any ((OpenSpec.ofChange Rows.jsonParsesSpec).preRow enc Tryd.prog Tryd.f3 Rows.jsonParsesRow.domain false Rows.jsonParsesRow.laid) (((OpenSpec.ofChange Rows.jsonParsesSpec).at F).post enc Tryd.prog Tryd.f3 false true false false) := by
  obtain ⟨places, hx⟩ := reads os enc
  refine returnsInHanded_of_row (C := Tryd.checked) (s := OpenSpec.ofChange Rows.jsonParsesSpec) own started (by kernel_rfl) Tryd.func3
    (witness_row_at (enc := enc) (C := Tryd.checked) false (laidWorld os) #[.string ⟨#[]⟩] rfl (by kernel_rfl) (by kernel_rfl) (by kernel_rfl)
      (OpenSpec.preRow_of_cond 8 hx (by kernel_rfl) (fun k hk => by cases hk) (by kernel_rfl) (laid_met os _))) ?_
  intro W base args ds gs before hval hW _ _ hZ hL _ _
  exact contract H enc W base args ds gs before hval hW hZ hL

theorem said : Rows.JsonParsesSaid :=
  OpenClaim.holds_of_cond 3 Tryd.f3 rfl rfl rfl rfl rfl rfl rfl ⟨rfl, rfl, rfl, rfl, rfl⟩ rfl rfl rfl rfl rfl (by kernel_rfl) Tryd.func3 (by kernel_rfl)
    (of_decide_eq_true (by kernel_rfl)) (by unfold Func.isWrapper; first | (rw [if_pos (by decide +kernel)]; kernel_rfl) | (rw [if_neg (by decide +kernel)]; exact ⟨rfl, rfl⟩))
    (fun os started H enc _ F => by rw [OpenClaim.pre_eq_preRow]; exact lifted os started H enc F)

theorem plain (f : FuncId) (fn : Func) (hf : Tryd.pinned.checked.prog.funcNamed "stairwell/stairwelllaw.JsonParses" = some f) (hfn : Tryd.pinned.checked.prog.funcs[f]? = some fn) :
    true = Tryd.pinned.checked.prog.looks [] ∧ ∀ (j : Nat) t, fn.params[j]? = some t → Tryd.pinned.checked.prog.wantsStandIn t = false := by
  obtain rfl : f = 3 := Option.some.inj ((show Tryd.prog.funcNamed "stairwell/stairwelllaw.JsonParses" = some 3 by kernel_rfl).symm.trans hf) |>.symm
  obtain rfl : fn = Tryd.f3 := (Option.some.inj (Tryd.func3.symm.trans hfn)).symm
  refine ⟨by kernel_rfl, fun j t ht => ?_⟩
  rw [Tryd.params3] at ht
  have hm := Array.mem_of_getElem? ht
  simp only [Array.mem_def, List.mem_cons, List.not_mem_nil, or_false] at hm
  subst hm
  exact (show Tryd.prog.wantsStandIn 9 = false by kernel_rfl)

theorem card : Rows.JsonParsesCardSaid :=
  Claim7.holds_tied_plain_at .later [] _ _ _ _ said (fun _ h => by cases h) (by kernel_rfl) (fun _ h => by cases h) jsonParses_row_tie rfl ⟨rfl, rfl⟩ (by kernel_rfl) rfl plain (by kernel_rfl)
end Go.Proofs.YtkboplcffailoaaDoor.jsonParses
