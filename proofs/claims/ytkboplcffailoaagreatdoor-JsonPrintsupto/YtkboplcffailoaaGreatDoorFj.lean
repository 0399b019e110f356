/- What shaped of package stairwellref does. -/
import Derived.Test.YtkboplcffailoaaGreatDoorFh
import Derived.Test.YtkboplcffailoaaGreatDoorTp
import Derived.Deep.CutBlock
import Derived.Deep.DrawnRows
set_option linter.unusedSimpArgs false
set_option linter.unusedVariables false
namespace Go.Proofs.YtkboplcffailoaaGreatDoor
open Go.RowKit
attribute [local go_sem ↓] Go.wp_at_zero Go.wp_at_succ

set_option maxRecDepth 100000 in
set_option maxHeartbeats 40000000 in
theorem rshaped_k5 (d : Nat) (ih : ShpC d) (w : World) (ok : Nat → Prop) (t : V) (v : Value) (h : VIs w ok (d + 1) t v) (hk : t.kind = 5) :
    Calls Tryz.prog 17 #[v] w fun e w' => e = .returned (.bool (shp t)) ∧ Below w.heap.size w w' := by
  have IH := hidI ih
  obtain ⟨a1, a2, c1, c2, rfl⟩ := h.shape
  have VV : Hid (ValsAre w ok (VIs w ok d) t.l (.slice a2 t.l.length c2) ∧ StrsAre w ok t.keys (.slice a1 t.keys.length c1) ∧ t.s.length ≤ 9223372036854775807) := hidI (by
    obtain ⟨ks, ls, e, h1, h2, h3, h4, h5⟩ := h
    simp only [Value.agg.injEq, Array.mk.injEq, List.cons.injEq, and_true] at e
    obtain ⟨-, -, -, rfl, rfl⟩ := e
    exact ⟨h5, h4, h3⟩)
  have ll : t.l.length ≤ 9223372036854775807 := VV.out.1.1
  have lk : t.keys.length ≤ 9223372036854775807 := VV.out.2.1.1
  have B1 := hidI (bel_alloc w (.cells #[.int .i64 t.kind, .int .i64 t.n, .string ⟨t.s.toArray⟩, .slice a1 t.keys.length c1, .slice a2 t.l.length c2] 25))
  have HK := hidI hk
  clear h ih hk
  go_enter Tryz.func17, Tryz.ntmps17
  go_upto_block 0 with fail
  go_cut [3] (fun b wc => b = .bool (shapedB t) ∧ BoxIs wc w.heap.size (.int .i64 t.kind) (.int .i64 t.n) (.string ⟨t.s.toArray⟩) (.slice a1 t.keys.length c1) (.slice a2 t.l.length c2) ∧ Below w.heap.size w wc)
  case first =>
    have hk := HK.out
    have f0 : (t.kind == 0) = false := by simp [hk]
    have f1 : (t.kind == 1) = false := by simp [hk]
    have f2 : (t.kind == 2) = false := by simp [hk]
    have f3 : (t.kind == 3) = false := by simp [hk]
    have f4 : (t.kind == 4) = false := by simp [hk]
    have g5 : (t.kind == 5) = true := by simp [hk]
    obtain ⟨o5, ho5⟩ : ∃ o, (decide (t.n = 0) && decide (t.s = []) && decide (t.keys.length = t.l.length)) = o := ⟨_, rfl⟩
    have S5 : Hid (shapedB t = (o5 && riseFrom none t.keys)) := hidI (by rw [shaped_five hk, ho5])
    have O5 := hidI ho5
    clear hk ho5
    go_upto_region 14 with fail
    go_cut [3] (fun b wc => b = .bool o5 ∧ BoxIs wc w.heap.size (.int .i64 t.kind) (.int .i64 t.n) (.string ⟨t.s.toArray⟩) (.slice a1 t.keys.length c1) (.slice a2 t.l.length c2) ∧ Below w.heap.size w wc)
    case first =>
      by_cases hN : t.n = 0
      · have qN : (t.n == 0) = true := by simp [hN]
        by_cases hS : t.s = []
        · have qS : (t.s == []) = true := by simp [hS]
          by_cases hM : t.keys.length = t.l.length
          · have qM : ((t.keys.length : Int) == (t.l.length : Int)) = true := by simp [hM]
            have HR : Hid (o5 = true) := hidI (by rw [← O5.out]; simp [hN, hS, hM])
            clear hN hS hM
            go_wp2_with fail
            go_meet
            case rel => exact ⟨by rw [HR.out], heap_alloc_new w _, B1.out⟩
          · have qM : ((t.keys.length : Int) == (t.l.length : Int)) = false := by rw [beq_eq_false_iff_ne]; omega
            have HR : Hid (o5 = false) := hidI (by rw [← O5.out]; simp [hN, hS, hM])
            clear hN hS hM
            go_wp2_with fail
            go_meet
            case rel => exact ⟨by rw [HR.out], heap_alloc_new w _, B1.out⟩
        · have qS : (t.s == []) = false := by simp [hS]
          have HR : Hid (o5 = false) := hidI (by rw [← O5.out]; simp [hN, hS])
          clear hN hS
          go_wp2_with fail
          go_meet
          case rel => exact ⟨by rw [HR.out], heap_alloc_new w _, B1.out⟩
      · have qN : (t.n == 0) = false := by simp [hN]
        have HR : Hid (o5 = false) := hidI (by rw [← O5.out]; simp [hN])
        clear hN
        go_wp2_with fail
        go_meet
        case rel => exact ⟨by rw [HR.out], heap_alloc_new w _, B1.out⟩
    case rest =>
      obtain ⟨rfl, hc⟩ := hcut
      have C0 := hidI hc
      obtain ⟨y0, y1, y2, y3, y4, -⟩ := hc.1.c
      clear hc
      go_wp2_with fail
      go_loopg [3, 145] t.keys.length (fun gk b i wr => ∃ (k : Nat) (o : Bool), k ≤ t.keys.length ∧ gk = t.keys.length - k ∧ i = .int .i64 k ∧ b = .bool o ∧ Hid (shapedB t = (o && riseFrom (prevAt t.keys k) (t.keys.drop k))) ∧ BoxIs wr w.heap.size (.int .i64 t.kind) (.int .i64 t.n) (.string ⟨t.s.toArray⟩) (.slice a1 t.keys.length c1) (.slice a2 t.l.length c2) ∧ Below w.heap.size w wr)
      case atStart => exact ⟨0, o5, Nat.zero_le _, rfl, rfl, rfl, hidI S5.out, C0.out⟩
      case round =>
        obtain ⟨k, o, hk, hgk, rfl, rfl, HS, hc⟩ := hrel
        have GK := hidI hgk
        have CC := hidI hc
        obtain ⟨y0, y1, y2, y3, y4, -⟩ := hc.1.c
        clear hgk hc
        by_cases hlt : k < t.keys.length
        · have w1 : (0 : Int) ≤ (k : Int) := by omega
          have w2 : (k : Int) < (t.keys.length : Int) := by omega
          have ST := hidI (riseFrom_step hlt)
          cases o with
          | false =>
            have HN : Hid (shapedB t = (false && riseFrom (prevAt t.keys (k + 1)) (t.keys.drop (k + 1)))) := hidI (by rw [HS.out]; rfl)
            clear HS ST
            go_wp2_with fail
            go_quiet (fail)
            all_goals
              go_wp2_with fail
              go_roundg (t.keys.length - (k + 1))
              case measure => rw [GK.out]; omega
              case rel => exact ⟨k + 1, false, hlt, rfl, by go_num, rfl, HN, by first | exact CC.out | exact ⟨box_bel (bel_drewN _ _) CC.out.1, bel_trans CC.out.2 (bel_drewN _ _)⟩ | exact ⟨box_bel (show Below wr.heap.size wr wr.drew from (Below.refl _ wr).drew) CC.out.1, bel_trans CC.out.2 (show Below wr.heap.size wr wr.drew from (Below.refl _ wr).drew)⟩⟩
          | true =>
            obtain ⟨kb, ko, rfl, z1, z2, hc1⟩ := strs_at VV.out.2.1 hlt
            unfold maxLen at z2
            have hcell := cell_bel CC.out.2 hc1
            have KLn : Hid (t.keys[k].length ≤ 9223372036854775807) := hidI (by
              rcases VV.out.2.1.2 with ⟨e, _⟩ | ⟨b, off, c', e, h1, h2, hcs⟩
              · rw [e] at hlt; simp at hlt
              · exact (hcs k t.keys[k] (List.getElem?_eq_getElem hlt)).1)
            have CALL : Hid (∀ (o : Bool), plainB t.keys[k] = o → ∀ (n : Nat) (os : Array Obj), Calls Tryz.prog 28 #[.string ⟨t.keys[k].toArray⟩] (Go.Sort.grow (wr.drewN n) os) fun e w'' => e = .returned (.bool o) ∧ ∃ p : GrownBy, w'' = Go.Sort.grow (wr.drewN p.n) p.os) := hidI (fun o ho n os => Calls.grown_of ((ascii_gr _ t.keys[k] KLn.out).mono fun e w4 h => ⟨by rw [← ho]; exact h.1, h.2⟩))
            have hmix : Tryz.prog.follows .mixedOrders = true := by kernel_rfl
            have s0 : ∀ n os, (Go.Sort.grow (wr.drewN n) os).cell? ⟨w.heap.size, 3, none⟩ = some (.slice (some ⟨kb, ko, none⟩) t.keys.length c1) := cell_grown CC.out.1.lt CC.out.1.c.2.2.2.1
            have s1 : ∀ n os, (Go.Sort.grow (wr.drewN n) os).cell? ⟨kb, ko + k, none⟩ = some (.string ⟨t.keys[k].toArray⟩) := cell_grown (World.block_lt_of_cell? wr _ hcell) hcell
            clear hc1
            cases hpl : plainB t.keys[k] with
            | false =>
              have HPL := hidI hpl
              have HN : Hid (shapedB t = (false && riseFrom (prevAt t.keys (k + 1)) (t.keys.drop (k + 1)))) := hidI (by rw [HS.out, ST.out, hpl]; rfl)
              clear hpl HS ST
              go_wp2_with fail
              refine wp_region_quiet_grown (by assumption) (by kernel_rfl) ?_
              repeat (first | go_big_quiet_step ((go_at_call 28; exact CALL.out _ HPL.out _ _)) | quiet_step ((go_at_call 28; exact CALL.out _ HPL.out _ _)))
              refine wpQuiet_nil ?_
              intro _ hw'
              obtain ⟨⟨nq, osq⟩, hw''⟩ := hw'
              subst hw''
              all_goals
                go_wp2_with fail
                go_roundg (t.keys.length - (k + 1))
                case measure => rw [GK.out]; omega
                case rel => exact ⟨k + 1, false, hlt, rfl, by go_num, rfl, HN, box_bel (bel_grow _ _ _) CC.out.1, bel_trans CC.out.2 (bel_grow _ _ _)⟩
            | true =>
              have HPL := hidI hpl
              clear hpl
              by_cases hk0 : k = 0
              · have e9 : ((k : Int) == 0) = true := by simp [hk0]
                have HN : Hid (shapedB t = (true && riseFrom (prevAt t.keys (k + 1)) (t.keys.drop (k + 1)))) := hidI (by rw [HS.out, ST.out, HPL.out, show prevAt t.keys k = none by simp [prevAt, hk0]]; rfl)
                clear HS ST hk0
                go_wp2_with fail
                refine wp_region_quiet_grown (by assumption) (by kernel_rfl) ?_
                repeat (first | go_big_quiet_step ((go_at_call 28; exact CALL.out _ HPL.out _ _)) | quiet_step ((go_at_call 28; exact CALL.out _ HPL.out _ _)))
                refine wpQuiet_nil ?_
                intro _ hw'
                obtain ⟨⟨nq, osq⟩, hw''⟩ := hw'
                subst hw''
                go_wp2_with fail
                go_roundg (t.keys.length - (k + 1))
                case measure => rw [GK.out]; omega
                case rel => exact ⟨k + 1, true, hlt, rfl, by go_num, rfl, HN, box_bel (bel_grow _ _ _) CC.out.1, bel_trans CC.out.2 (bel_grow _ _ _)⟩
              · have e9 : ((k : Int) == 0) = false := by rw [beq_eq_false_iff_ne]; omega
                obtain ⟨j, hj9⟩ : ∃ j, k = j + 1 := ⟨k - 1, by omega⟩
                have hj : j < t.keys.length := by omega
                obtain ⟨kb', ko', hke, -, -, hc2⟩ := strs_at VV.out.2.1 hj
                simp only [Option.some.injEq, Addr.mk.injEq, and_true] at hke
                obtain ⟨rfl, rfl⟩ := hke
                have hcell2 := cell_bel CC.out.2 hc2
                have j1 : (k : Int) - 1 = (j : Int) := by omega
                have j2 : (j : Int) < (t.keys.length : Int) := by omega
                have j3 : (0 : Int) ≤ (j : Int) := by omega
                have Z : Hid (prevAt t.keys k = some t.keys[j]) := hidI (by simp [prevAt, hk0, show k - 1 = j by omega, List.getElem?_eq_getElem hj])
                have s2 : ∀ n os, (Go.Sort.grow (wr.drewN n) os).cell? ⟨kb, ko + j, none⟩ = some (.string ⟨t.keys[j].toArray⟩) := cell_grown (World.block_lt_of_cell? wr _ hcell2) hcell2
                clear hc2 hk0 hj9
                cases hbl : Op.bytesLess t.keys[j] t.keys[k] with
                | true =>
                  have HN : Hid (shapedB t = (true && riseFrom (prevAt t.keys (k + 1)) (t.keys.drop (k + 1)))) := hidI (by rw [HS.out, ST.out, HPL.out, Z.out]; simp only [hbl]; rfl)
                  clear HS ST Z
                  go_wp2_with fail
                  refine wp_region_quiet_grown (by assumption) (by kernel_rfl) ?_
                  repeat (first | go_big_quiet_step ((go_at_call 28; exact CALL.out _ HPL.out _ _)) | quiet_step ((go_at_call 28; exact CALL.out _ HPL.out _ _)))
                  refine wpQuiet_nil ?_
                  intro _ hw'
                  obtain ⟨⟨nq, osq⟩, hw''⟩ := hw'
                  subst hw''
                  go_wp2_with fail
                  go_roundg (t.keys.length - (k + 1))
                  case measure => rw [GK.out]; omega
                  case rel => exact ⟨k + 1, true, hlt, rfl, by go_num, rfl, HN, box_bel (bel_grow _ _ _) CC.out.1, bel_trans CC.out.2 (bel_grow _ _ _)⟩
                | false =>
                  have HN : Hid (shapedB t = (false && riseFrom (prevAt t.keys (k + 1)) (t.keys.drop (k + 1)))) := hidI (by rw [HS.out, ST.out, HPL.out, Z.out]; simp only [hbl]; rfl)
                  clear HS ST Z
                  go_wp2_with fail
                  refine wp_region_quiet_grown (by assumption) (by kernel_rfl) ?_
                  repeat (first | go_big_quiet_step ((go_at_call 28; exact CALL.out _ HPL.out _ _)) | quiet_step ((go_at_call 28; exact CALL.out _ HPL.out _ _)))
                  refine wpQuiet_nil ?_
                  intro _ hw'
                  obtain ⟨⟨nq, osq⟩, hw''⟩ := hw'
                  subst hw''
                  go_wp2_with fail
                  go_roundg (t.keys.length - (k + 1))
                  case measure => rw [GK.out]; omega
                  case rel => exact ⟨k + 1, false, hlt, rfl, by go_num, rfl, HN, box_bel (bel_grow _ _ _) CC.out.1, bel_trans CC.out.2 (bel_grow _ _ _)⟩
        · have l1 : t.keys.drop k = [] := List.drop_eq_nil_of_le (by omega)
          have HN : Hid (shapedB t = o) := hidI (by rw [HS.out, l1]; simp [riseFrom])
          have d1 : ¬ (k : Int) < (t.keys.length : Int) := by omega
          clear l1
          go_wp2_with fail
          go_meet
          case rel => exact ⟨by rw [HN.out], CC.out⟩
  case rest =>
    obtain ⟨rfl, hc⟩ := hcut
    have C0 := hidI hc
    have HSP := hidI (shp_eq t)
    obtain ⟨y0, y1, y2, y3, y4, -⟩ := hc.1.c
    obtain ⟨o0, ho0⟩ : ∃ o, shapedB t = o := ⟨_, rfl⟩
    rw [ho0]
    have O0 := hidI ho0
    clear hc ho0
    go_wp2_with fail
    go_loopg [3, 179] t.l.length (fun gk b i wr => ∃ (k : Nat), k ≤ t.l.length ∧ gk = t.l.length - k ∧ i = .int .i64 k ∧ b = .bool (o0 && shps (t.l.take k)) ∧ Below w.heap.size w wr)
    case atStart => exact ⟨0, Nat.zero_le _, rfl, rfl, by simp [shps], C0.out.2⟩
    case round =>
      obtain ⟨k, hk, hgk, rfl, rfl, hb⟩ := hrel
      have GK := hidI hgk
      have HB := hidI hb
      clear hgk hb
      by_cases hlt : k < t.l.length
      · obtain ⟨b, off, rfl, z1, z2, a5, c5, a6, c6, p0, p1, p2, p3, p4, p5⟩ := vals_at VV.out.1 hlt
        unfold maxLen at z2
        replace p0 := cell_bel HB.out p0
        replace p1 := cell_bel HB.out p1
        replace p2 := cell_bel HB.out p2
        replace p3 := cell_bel HB.out p3
        replace p4 := cell_bel HB.out p4
        have P5 := hidI (p5.bel HB.out)
        have w1 : (0 : Int) ≤ (k : Int) := by omega
        have w2 : (k : Int) < (t.l.length : Int) := by omega
        have e1 : Hid (shps (t.l.take (k + 1)) = (shps (t.l.take k) && shp t.l[k])) := hidI (by rw [take_snocV hlt, shps_snoc])
        clear p5
        cases hoo : (o0 && shps (t.l.take k)) with
        | false =>
          have HN : Hid ((o0 && shps (t.l.take (k + 1))) = false) := hidI (by rw [e1.out, ← Bool.and_assoc, hoo]; rfl)
          clear hoo
          go_wp2_with fail
          go_roundg (t.l.length - (k + 1))
          case measure => rw [GK.out]; omega
          case rel => exact ⟨k + 1, hlt, rfl, by go_num, by rw [HN.out], bel_trans HB.out (bel_alloc _ _)⟩
        | true =>
          have HN : Hid ((o0 && shps (t.l.take (k + 1))) = shp t.l[k]) := hidI (by rw [e1.out, ← Bool.and_assoc, hoo]; rfl)
          clear hoo
          go_wp2_with fail
          refine (IH.out _ ok t.l[k] _ (by exact P5.out.bel (bel_alloc _ _))).mono ?_
          rintro e w4 ⟨rfl, hb4⟩
          have HB4 := hidI (bel_trans HB.out (bel_trans (bel_alloc _ _) hb4))
          clear hb4 p0 p1 p2 p3 p4
          go_wp2_with fail
          go_roundg (t.l.length - (k + 1))
          case measure => rw [GK.out]; omega
          case rel => exact ⟨k + 1, hlt, rfl, by go_num, by rw [HN.out], HB4.out⟩
      · have l1 : t.l.take k = t.l := List.take_of_length_le (by omega)
        have d1 : ¬ (k : Int) < (t.l.length : Int) := by omega
        rw [l1]
        have HF : Hid (shp t = (o0 && shps t.l)) := hidI (by rw [HSP.out, O0.out])
        clear l1
        go_wp2_with fail
        go_ret
        exact ⟨by rw [HF.out]; rfl, HB.out⟩
end Go.Proofs.YtkboplcffailoaaGreatDoor
