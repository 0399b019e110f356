/- What shaped of package stairwellref does. -/
import Derived.Test.YtkboplcffailoaaDoorFa
import Derived.Test.YtkboplcffailoaaDoorTp
import Derived.Deep.CutBlock
import Derived.Deep.DrawnRows
set_option linter.unusedSimpArgs false
set_option linter.unusedVariables false
namespace Go.Proofs.YtkboplcffailoaaDoor
open Go.RowKit
attribute [local go_sem ↓] Go.wp_at_zero Go.wp_at_succ

def ShpC (d : Nat) : Prop := ∀ (w : World) (ok : Nat → Prop) (t : V) (v : Value), VIs w ok d t v →
    Calls Tryd.prog 29 #[v] w fun e w' => e = .returned (.bool (shp t)) ∧ Below w.heap.size w w'
theorem shaped_five {t : V} (hk : t.kind = 5) : shapedB t = (decide (t.n = 0) && decide (t.s = []) && decide (t.keys.length = t.l.length) && riseFrom none t.keys) := by simp [shapedB, hk]

set_option maxRecDepth 100000 in
set_option maxHeartbeats 40000000 in
theorem rshaped_k0 (d : Nat) (ih : ShpC d) (w : World) (ok : Nat → Prop) (t : V) (v : Value) (h : VIs w ok (d + 1) t v) (hk : t.kind = 0) :
    Calls Tryd.prog 29 #[v] w fun e w' => e = .returned (.bool (shp t)) ∧ Below w.heap.size w w' := by
  have IH := hidI ih
  obtain ⟨a1, a2, c1, c2, rfl⟩ := h.shape
  have VV : Hid (ValsAre w ok (VIs w ok d) t.l (.slice a2 t.l.length c2) ∧ StrsAre w ok t.keys (.slice a1 t.keys.length c1) ∧ t.s.length ≤ 9223372036854775807) := hidI (by
    obtain ⟨ks, ls, e, h1, h2, h3, h4, h5⟩ := h
    simp only [Value.agg.injEq, Array.mk.injEq, List.cons.injEq, and_true] at e
    obtain ⟨-, -, -, rfl, rfl⟩ := e
    exact ⟨h5, h4, h3⟩)
  have ll : t.l.length ≤ 9223372036854775807 := VV.out.1.1
  have lk : t.keys.length ≤ 9223372036854775807 := VV.out.2.1.1
  have B1 := hidI (bel_alloc w (.cells #[.int .i64 t.kind, .int .i64 t.n, .string ⟨t.s.toArray⟩, .slice a1 t.keys.length c1, .slice a2 t.l.length c2] 25))
  have HK := hidI hk
  clear h ih hk
  go_enter Tryd.func29, Tryd.ntmps29
  go_upto_block 0 with fail
  go_cut [3] (fun b wc => b = .bool (shapedB t) ∧ BoxIs wc w.heap.size (.int .i64 t.kind) (.int .i64 t.n) (.string ⟨t.s.toArray⟩) (.slice a1 t.keys.length c1) (.slice a2 t.l.length c2) ∧ Below w.heap.size w wc)
  case first =>
    have hk := HK.out
    have g0 : (t.kind == 0) = true := by simp [hk]
    by_cases hN : t.n = 0
    · have qN : (t.n == 0) = true := by simp [hN]
      by_cases hS : t.s = []
      · have qS : (t.s == []) = true := by simp [hS]
        by_cases hK : t.keys.length = 0
        · have qK : ((t.keys.length : Int) == 0) = true := by simp [hK]
          by_cases hL : t.l.length = 0
          · have qL : ((t.l.length : Int) == 0) = true := by simp [hL]
            have HR : Hid (shapedB t = true) := hidI (by simp [shapedB, listlessB, hk, hN, hS, hK, hL])
            clear hk hN hS hK hL
            go_wp2_with fail
            go_meet
            case rel => exact ⟨by rw [HR.out], ⟨heap_alloc_new w _, B1.out⟩⟩
          · have qL : ((t.l.length : Int) == 0) = false := by rw [beq_eq_false_iff_ne]; omega
            have HR : Hid (shapedB t = false) := hidI (by simp [shapedB, listlessB, hk, hN, hS, hK, hL])
            clear hk hN hS hK hL
            go_wp2_with fail
            go_meet
            case rel => exact ⟨by rw [HR.out], ⟨heap_alloc_new w _, B1.out⟩⟩
        · have qK : ((t.keys.length : Int) == 0) = false := by rw [beq_eq_false_iff_ne]; omega
          have HR : Hid (shapedB t = false) := hidI (by simp [shapedB, listlessB, hk, hN, hS, hK])
          clear hk hN hS hK
          go_wp2_with fail
          go_meet
          case rel => exact ⟨by rw [HR.out], ⟨heap_alloc_new w _, B1.out⟩⟩
      · have qS : (t.s == []) = false := by simp [hS]
        have HR : Hid (shapedB t = false) := hidI (by simp [shapedB, listlessB, hk, hN, hS])
        clear hk hN hS
        go_wp2_with fail
        go_meet
        case rel => exact ⟨by rw [HR.out], ⟨heap_alloc_new w _, B1.out⟩⟩
    · have qN : (t.n == 0) = false := by simp [hN]
      have HR : Hid (shapedB t = false) := hidI (by simp [shapedB, listlessB, hk, hN])
      clear hk hN
      go_wp2_with fail
      go_meet
      case rel => exact ⟨by rw [HR.out], ⟨heap_alloc_new w _, B1.out⟩⟩
  case rest =>
    obtain ⟨rfl, hc⟩ := hcut
    have C0 := hidI hc
    have HSP := hidI (shp_eq t)
    obtain ⟨y0, y1, y2, y3, y4, -⟩ := hc.1.c
    obtain ⟨o0, ho0⟩ : ∃ o, shapedB t = o := ⟨_, rfl⟩
    rw [ho0]
    have O0 := hidI ho0
    clear hc ho0
    go_wp2_with fail
    go_loopg [3, 179] t.l.length (fun gk b i wr => ∃ (k : Nat), k ≤ t.l.length ∧ gk = t.l.length - k ∧ i = .int .i64 k ∧ b = .bool (o0 && shps (t.l.take k)) ∧ Below w.heap.size w wr)
    case atStart => exact ⟨0, Nat.zero_le _, rfl, rfl, by simp [shps], C0.out.2⟩
    case round =>
      obtain ⟨k, hk, hgk, rfl, rfl, hb⟩ := hrel
      have GK := hidI hgk
      have HB := hidI hb
      clear hgk hb
      by_cases hlt : k < t.l.length
      · obtain ⟨b, off, rfl, z1, z2, a5, c5, a6, c6, p0, p1, p2, p3, p4, p5⟩ := vals_at VV.out.1 hlt
        unfold maxLen at z2
        replace p0 := cell_bel HB.out p0
        replace p1 := cell_bel HB.out p1
        replace p2 := cell_bel HB.out p2
        replace p3 := cell_bel HB.out p3
        replace p4 := cell_bel HB.out p4
        have P5 := hidI (p5.bel HB.out)
        have w1 : (0 : Int) ≤ (k : Int) := by omega
        have w2 : (k : Int) < (t.l.length : Int) := by omega
        have e1 : Hid (shps (t.l.take (k + 1)) = (shps (t.l.take k) && shp t.l[k])) := hidI (by rw [take_snocV hlt, shps_snoc])
        clear p5
        cases hoo : (o0 && shps (t.l.take k)) with
        | false =>
          have HN : Hid ((o0 && shps (t.l.take (k + 1))) = false) := hidI (by rw [e1.out, ← Bool.and_assoc, hoo]; rfl)
          clear hoo
          go_wp2_with fail
          go_roundg (t.l.length - (k + 1))
          case measure => rw [GK.out]; omega
          case rel => exact ⟨k + 1, hlt, rfl, by go_num, by rw [HN.out], bel_trans HB.out (bel_alloc _ _)⟩
        | true =>
          have HN : Hid ((o0 && shps (t.l.take (k + 1))) = shp t.l[k]) := hidI (by rw [e1.out, ← Bool.and_assoc, hoo]; rfl)
          clear hoo
          go_wp2_with fail
          refine (IH.out _ ok t.l[k] _ (by exact P5.out.bel (bel_alloc _ _))).mono ?_
          rintro e w4 ⟨rfl, hb4⟩
          have HB4 := hidI (bel_trans HB.out (bel_trans (bel_alloc _ _) hb4))
          clear hb4 p0 p1 p2 p3 p4
          go_wp2_with fail
          go_roundg (t.l.length - (k + 1))
          case measure => rw [GK.out]; omega
          case rel => exact ⟨k + 1, hlt, rfl, by go_num, by rw [HN.out], HB4.out⟩
      · have l1 : t.l.take k = t.l := List.take_of_length_le (by omega)
        have d1 : ¬ (k : Int) < (t.l.length : Int) := by omega
        rw [l1]
        have HF : Hid (shp t = (o0 && shps t.l)) := hidI (by rw [HSP.out, O0.out])
        clear l1
        go_wp2_with fail
        go_ret
        exact ⟨by rw [HF.out]; rfl, HB.out⟩
set_option maxRecDepth 100000 in
set_option maxHeartbeats 40000000 in
theorem rshaped_k1 (d : Nat) (ih : ShpC d) (w : World) (ok : Nat → Prop) (t : V) (v : Value) (h : VIs w ok (d + 1) t v) (hk : t.kind = 1) :
    Calls Tryd.prog 29 #[v] w fun e w' => e = .returned (.bool (shp t)) ∧ Below w.heap.size w w' := by
  have IH := hidI ih
  obtain ⟨a1, a2, c1, c2, rfl⟩ := h.shape
  have VV : Hid (ValsAre w ok (VIs w ok d) t.l (.slice a2 t.l.length c2) ∧ StrsAre w ok t.keys (.slice a1 t.keys.length c1) ∧ t.s.length ≤ 9223372036854775807) := hidI (by
    obtain ⟨ks, ls, e, h1, h2, h3, h4, h5⟩ := h
    simp only [Value.agg.injEq, Array.mk.injEq, List.cons.injEq, and_true] at e
    obtain ⟨-, -, -, rfl, rfl⟩ := e
    exact ⟨h5, h4, h3⟩)
  have ll : t.l.length ≤ 9223372036854775807 := VV.out.1.1
  have lk : t.keys.length ≤ 9223372036854775807 := VV.out.2.1.1
  have B1 := hidI (bel_alloc w (.cells #[.int .i64 t.kind, .int .i64 t.n, .string ⟨t.s.toArray⟩, .slice a1 t.keys.length c1, .slice a2 t.l.length c2] 25))
  have HK := hidI hk
  clear h ih hk
  go_enter Tryd.func29, Tryd.ntmps29
  go_upto_block 0 with fail
  go_cut [3] (fun b wc => b = .bool (shapedB t) ∧ BoxIs wc w.heap.size (.int .i64 t.kind) (.int .i64 t.n) (.string ⟨t.s.toArray⟩) (.slice a1 t.keys.length c1) (.slice a2 t.l.length c2) ∧ Below w.heap.size w wc)
  case first =>
    have hk := HK.out
    have f0 : (t.kind == 0) = false := by simp [hk]
    have g1 : (t.kind == 1) = true := by simp [hk]
    by_cases hN : t.n = 0
    · have qN : (t.n == 0) = true := by simp [hN]
      by_cases hS : t.s = []
      · have qS : (t.s == []) = true := by simp [hS]
        by_cases hK : t.keys.length = 0
        · have qK : ((t.keys.length : Int) == 0) = true := by simp [hK]
          by_cases hL : t.l.length = 0
          · have qL : ((t.l.length : Int) == 0) = true := by simp [hL]
            have HR : Hid (shapedB t = true) := hidI (by simp [shapedB, listlessB, hk, hN, hS, hK, hL])
            clear hk hN hS hK hL
            go_wp2_with fail
            go_meet
            case rel => exact ⟨by rw [HR.out], ⟨heap_alloc_new w _, B1.out⟩⟩
          · have qL : ((t.l.length : Int) == 0) = false := by rw [beq_eq_false_iff_ne]; omega
            have HR : Hid (shapedB t = false) := hidI (by simp [shapedB, listlessB, hk, hN, hS, hK, hL])
            clear hk hN hS hK hL
            go_wp2_with fail
            go_meet
            case rel => exact ⟨by rw [HR.out], ⟨heap_alloc_new w _, B1.out⟩⟩
        · have qK : ((t.keys.length : Int) == 0) = false := by rw [beq_eq_false_iff_ne]; omega
          have HR : Hid (shapedB t = false) := hidI (by simp [shapedB, listlessB, hk, hN, hS, hK])
          clear hk hN hS hK
          go_wp2_with fail
          go_meet
          case rel => exact ⟨by rw [HR.out], ⟨heap_alloc_new w _, B1.out⟩⟩
      · have qS : (t.s == []) = false := by simp [hS]
        have HR : Hid (shapedB t = false) := hidI (by simp [shapedB, listlessB, hk, hN, hS])
        clear hk hN hS
        go_wp2_with fail
        go_meet
        case rel => exact ⟨by rw [HR.out], ⟨heap_alloc_new w _, B1.out⟩⟩
    · have qN : (t.n == 0) = false := by simp [hN]
      by_cases hO : t.n = 1
      · have qO : (t.n == 1) = true := by simp [hO]
        by_cases hS : t.s = []
        · have qS : (t.s == []) = true := by simp [hS]
          by_cases hK : t.keys.length = 0
          · have qK : ((t.keys.length : Int) == 0) = true := by simp [hK]
            by_cases hL : t.l.length = 0
            · have qL : ((t.l.length : Int) == 0) = true := by simp [hL]
              have HR : Hid (shapedB t = true) := hidI (by simp [shapedB, listlessB, hk, hN, hO, hS, hK, hL])
              clear hk hN hO hS hK hL
              go_wp2_with fail
              go_meet
              case rel => exact ⟨by rw [HR.out], ⟨heap_alloc_new w _, B1.out⟩⟩
            · have qL : ((t.l.length : Int) == 0) = false := by rw [beq_eq_false_iff_ne]; omega
              have HR : Hid (shapedB t = false) := hidI (by simp [shapedB, listlessB, hk, hN, hO, hS, hK, hL])
              clear hk hN hO hS hK hL
              go_wp2_with fail
              go_meet
              case rel => exact ⟨by rw [HR.out], ⟨heap_alloc_new w _, B1.out⟩⟩
          · have qK : ((t.keys.length : Int) == 0) = false := by rw [beq_eq_false_iff_ne]; omega
            have HR : Hid (shapedB t = false) := hidI (by simp [shapedB, listlessB, hk, hN, hO, hS, hK])
            clear hk hN hO hS hK
            go_wp2_with fail
            go_meet
            case rel => exact ⟨by rw [HR.out], ⟨heap_alloc_new w _, B1.out⟩⟩
        · have qS : (t.s == []) = false := by simp [hS]
          have HR : Hid (shapedB t = false) := hidI (by simp [shapedB, listlessB, hk, hN, hO, hS])
          clear hk hN hO hS
          go_wp2_with fail
          go_meet
          case rel => exact ⟨by rw [HR.out], ⟨heap_alloc_new w _, B1.out⟩⟩
      · have qO : (t.n == 1) = false := by simp [hO]
        have HR : Hid (shapedB t = false) := hidI (by simp [shapedB, listlessB, hk, hN, hO])
        clear hk hN hO
        go_wp2_with fail
        go_meet
        case rel => exact ⟨by rw [HR.out], ⟨heap_alloc_new w _, B1.out⟩⟩
  case rest =>
    obtain ⟨rfl, hc⟩ := hcut
    have C0 := hidI hc
    have HSP := hidI (shp_eq t)
    obtain ⟨y0, y1, y2, y3, y4, -⟩ := hc.1.c
    obtain ⟨o0, ho0⟩ : ∃ o, shapedB t = o := ⟨_, rfl⟩
    rw [ho0]
    have O0 := hidI ho0
    clear hc ho0
    go_wp2_with fail
    go_loopg [3, 179] t.l.length (fun gk b i wr => ∃ (k : Nat), k ≤ t.l.length ∧ gk = t.l.length - k ∧ i = .int .i64 k ∧ b = .bool (o0 && shps (t.l.take k)) ∧ Below w.heap.size w wr)
    case atStart => exact ⟨0, Nat.zero_le _, rfl, rfl, by simp [shps], C0.out.2⟩
    case round =>
      obtain ⟨k, hk, hgk, rfl, rfl, hb⟩ := hrel
      have GK := hidI hgk
      have HB := hidI hb
      clear hgk hb
      by_cases hlt : k < t.l.length
      · obtain ⟨b, off, rfl, z1, z2, a5, c5, a6, c6, p0, p1, p2, p3, p4, p5⟩ := vals_at VV.out.1 hlt
        unfold maxLen at z2
        replace p0 := cell_bel HB.out p0
        replace p1 := cell_bel HB.out p1
        replace p2 := cell_bel HB.out p2
        replace p3 := cell_bel HB.out p3
        replace p4 := cell_bel HB.out p4
        have P5 := hidI (p5.bel HB.out)
        have w1 : (0 : Int) ≤ (k : Int) := by omega
        have w2 : (k : Int) < (t.l.length : Int) := by omega
        have e1 : Hid (shps (t.l.take (k + 1)) = (shps (t.l.take k) && shp t.l[k])) := hidI (by rw [take_snocV hlt, shps_snoc])
        clear p5
        cases hoo : (o0 && shps (t.l.take k)) with
        | false =>
          have HN : Hid ((o0 && shps (t.l.take (k + 1))) = false) := hidI (by rw [e1.out, ← Bool.and_assoc, hoo]; rfl)
          clear hoo
          go_wp2_with fail
          go_roundg (t.l.length - (k + 1))
          case measure => rw [GK.out]; omega
          case rel => exact ⟨k + 1, hlt, rfl, by go_num, by rw [HN.out], bel_trans HB.out (bel_alloc _ _)⟩
        | true =>
          have HN : Hid ((o0 && shps (t.l.take (k + 1))) = shp t.l[k]) := hidI (by rw [e1.out, ← Bool.and_assoc, hoo]; rfl)
          clear hoo
          go_wp2_with fail
          refine (IH.out _ ok t.l[k] _ (by exact P5.out.bel (bel_alloc _ _))).mono ?_
          rintro e w4 ⟨rfl, hb4⟩
          have HB4 := hidI (bel_trans HB.out (bel_trans (bel_alloc _ _) hb4))
          clear hb4 p0 p1 p2 p3 p4
          go_wp2_with fail
          go_roundg (t.l.length - (k + 1))
          case measure => rw [GK.out]; omega
          case rel => exact ⟨k + 1, hlt, rfl, by go_num, by rw [HN.out], HB4.out⟩
      · have l1 : t.l.take k = t.l := List.take_of_length_le (by omega)
        have d1 : ¬ (k : Int) < (t.l.length : Int) := by omega
        rw [l1]
        have HF : Hid (shp t = (o0 && shps t.l)) := hidI (by rw [HSP.out, O0.out])
        clear l1
        go_wp2_with fail
        go_ret
        exact ⟨by rw [HF.out]; rfl, HB.out⟩
set_option maxRecDepth 100000 in
set_option maxHeartbeats 40000000 in
theorem rshaped_k2 (d : Nat) (ih : ShpC d) (w : World) (ok : Nat → Prop) (t : V) (v : Value) (h : VIs w ok (d + 1) t v) (hk : t.kind = 2) :
    Calls Tryd.prog 29 #[v] w fun e w' => e = .returned (.bool (shp t)) ∧ Below w.heap.size w w' := by
  have IH := hidI ih
  obtain ⟨a1, a2, c1, c2, rfl⟩ := h.shape
  have VV : Hid (ValsAre w ok (VIs w ok d) t.l (.slice a2 t.l.length c2) ∧ StrsAre w ok t.keys (.slice a1 t.keys.length c1) ∧ t.s.length ≤ 9223372036854775807) := hidI (by
    obtain ⟨ks, ls, e, h1, h2, h3, h4, h5⟩ := h
    simp only [Value.agg.injEq, Array.mk.injEq, List.cons.injEq, and_true] at e
    obtain ⟨-, -, -, rfl, rfl⟩ := e
    exact ⟨h5, h4, h3⟩)
  have ll : t.l.length ≤ 9223372036854775807 := VV.out.1.1
  have lk : t.keys.length ≤ 9223372036854775807 := VV.out.2.1.1
  have B1 := hidI (bel_alloc w (.cells #[.int .i64 t.kind, .int .i64 t.n, .string ⟨t.s.toArray⟩, .slice a1 t.keys.length c1, .slice a2 t.l.length c2] 25))
  have HK := hidI hk
  clear h ih hk
  go_enter Tryd.func29, Tryd.ntmps29
  go_upto_block 0 with fail
  go_cut [3] (fun b wc => b = .bool (shapedB t) ∧ BoxIs wc w.heap.size (.int .i64 t.kind) (.int .i64 t.n) (.string ⟨t.s.toArray⟩) (.slice a1 t.keys.length c1) (.slice a2 t.l.length c2) ∧ Below w.heap.size w wc)
  case first =>
    have hk := HK.out
    have f0 : (t.kind == 0) = false := by simp [hk]
    have f1 : (t.kind == 1) = false := by simp [hk]
    have g2 : (t.kind == 2) = true := by simp [hk]
    by_cases hA : -9007199254740992 ≤ t.n
    · have qA : -9007199254740992 ≤ t.n := by exact hA
      by_cases hB : t.n ≤ 9007199254740992
      · have qB : t.n ≤ 9007199254740992 := by exact hB
        by_cases hS : t.s = []
        · have qS : (t.s == []) = true := by simp [hS]
          by_cases hK : t.keys.length = 0
          · have qK : ((t.keys.length : Int) == 0) = true := by simp [hK]
            by_cases hL : t.l.length = 0
            · have qL : ((t.l.length : Int) == 0) = true := by simp [hL]
              have HR : Hid (shapedB t = true) := hidI (by simp [shapedB, listlessB, hk, hA, hB, hS, hK, hL])
              clear hk hA hB hS hK hL
              go_wp2_with fail
              go_meet
              case rel => exact ⟨by rw [HR.out], ⟨heap_alloc_new w _, B1.out⟩⟩
            · have qL : ((t.l.length : Int) == 0) = false := by rw [beq_eq_false_iff_ne]; omega
              have HR : Hid (shapedB t = false) := hidI (by simp [shapedB, listlessB, hk, hA, hB, hS, hK, hL])
              clear hk hA hB hS hK hL
              go_wp2_with fail
              go_meet
              case rel => exact ⟨by rw [HR.out], ⟨heap_alloc_new w _, B1.out⟩⟩
          · have qK : ((t.keys.length : Int) == 0) = false := by rw [beq_eq_false_iff_ne]; omega
            have HR : Hid (shapedB t = false) := hidI (by simp [shapedB, listlessB, hk, hA, hB, hS, hK])
            clear hk hA hB hS hK
            go_wp2_with fail
            go_meet
            case rel => exact ⟨by rw [HR.out], ⟨heap_alloc_new w _, B1.out⟩⟩
        · have qS : (t.s == []) = false := by simp [hS]
          have HR : Hid (shapedB t = false) := hidI (by simp [shapedB, listlessB, hk, hA, hB, hS])
          clear hk hA hB hS
          go_wp2_with fail
          go_meet
          case rel => exact ⟨by rw [HR.out], ⟨heap_alloc_new w _, B1.out⟩⟩
      · have qB : ¬ t.n ≤ 9007199254740992 := by exact hB
        have HR : Hid (shapedB t = false) := hidI (by simp [shapedB, listlessB, hk, hA, hB])
        clear hk hA hB
        go_wp2_with fail
        go_meet
        case rel => exact ⟨by rw [HR.out], ⟨heap_alloc_new w _, B1.out⟩⟩
    · have qA : ¬ -9007199254740992 ≤ t.n := by exact hA
      have HR : Hid (shapedB t = false) := hidI (by simp [shapedB, listlessB, hk, hA])
      clear hk hA
      go_wp2_with fail
      go_meet
      case rel => exact ⟨by rw [HR.out], ⟨heap_alloc_new w _, B1.out⟩⟩
  case rest =>
    obtain ⟨rfl, hc⟩ := hcut
    have C0 := hidI hc
    have HSP := hidI (shp_eq t)
    obtain ⟨y0, y1, y2, y3, y4, -⟩ := hc.1.c
    obtain ⟨o0, ho0⟩ : ∃ o, shapedB t = o := ⟨_, rfl⟩
    rw [ho0]
    have O0 := hidI ho0
    clear hc ho0
    go_wp2_with fail
    go_loopg [3, 179] t.l.length (fun gk b i wr => ∃ (k : Nat), k ≤ t.l.length ∧ gk = t.l.length - k ∧ i = .int .i64 k ∧ b = .bool (o0 && shps (t.l.take k)) ∧ Below w.heap.size w wr)
    case atStart => exact ⟨0, Nat.zero_le _, rfl, rfl, by simp [shps], C0.out.2⟩
    case round =>
      obtain ⟨k, hk, hgk, rfl, rfl, hb⟩ := hrel
      have GK := hidI hgk
      have HB := hidI hb
      clear hgk hb
      by_cases hlt : k < t.l.length
      · obtain ⟨b, off, rfl, z1, z2, a5, c5, a6, c6, p0, p1, p2, p3, p4, p5⟩ := vals_at VV.out.1 hlt
        unfold maxLen at z2
        replace p0 := cell_bel HB.out p0
        replace p1 := cell_bel HB.out p1
        replace p2 := cell_bel HB.out p2
        replace p3 := cell_bel HB.out p3
        replace p4 := cell_bel HB.out p4
        have P5 := hidI (p5.bel HB.out)
        have w1 : (0 : Int) ≤ (k : Int) := by omega
        have w2 : (k : Int) < (t.l.length : Int) := by omega
        have e1 : Hid (shps (t.l.take (k + 1)) = (shps (t.l.take k) && shp t.l[k])) := hidI (by rw [take_snocV hlt, shps_snoc])
        clear p5
        cases hoo : (o0 && shps (t.l.take k)) with
        | false =>
          have HN : Hid ((o0 && shps (t.l.take (k + 1))) = false) := hidI (by rw [e1.out, ← Bool.and_assoc, hoo]; rfl)
          clear hoo
          go_wp2_with fail
          go_roundg (t.l.length - (k + 1))
          case measure => rw [GK.out]; omega
          case rel => exact ⟨k + 1, hlt, rfl, by go_num, by rw [HN.out], bel_trans HB.out (bel_alloc _ _)⟩
        | true =>
          have HN : Hid ((o0 && shps (t.l.take (k + 1))) = shp t.l[k]) := hidI (by rw [e1.out, ← Bool.and_assoc, hoo]; rfl)
          clear hoo
          go_wp2_with fail
          refine (IH.out _ ok t.l[k] _ (by exact P5.out.bel (bel_alloc _ _))).mono ?_
          rintro e w4 ⟨rfl, hb4⟩
          have HB4 := hidI (bel_trans HB.out (bel_trans (bel_alloc _ _) hb4))
          clear hb4 p0 p1 p2 p3 p4
          go_wp2_with fail
          go_roundg (t.l.length - (k + 1))
          case measure => rw [GK.out]; omega
          case rel => exact ⟨k + 1, hlt, rfl, by go_num, by rw [HN.out], HB4.out⟩
      · have l1 : t.l.take k = t.l := List.take_of_length_le (by omega)
        have d1 : ¬ (k : Int) < (t.l.length : Int) := by omega
        rw [l1]
        have HF : Hid (shp t = (o0 && shps t.l)) := hidI (by rw [HSP.out, O0.out])
        clear l1
        go_wp2_with fail
        go_ret
        exact ⟨by rw [HF.out]; rfl, HB.out⟩
end Go.Proofs.YtkboplcffailoaaDoor
