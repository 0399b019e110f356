/- What CopyValue of the reference does, so told. -/
import Derived.Test.YtfbddgpekbhpfacGreatDoorGFj
import Derived.Test.YtfbddgpekbhpfacGreatDoorGFr
import Derived.Test.YtfbddgpekbhpfacGreatDoorGMd
import Derived.Test.YtfbddgpekbhpfacGreatDoorGMg
import Derived.Test.YtfbddgpekbhpfacGreatDoorGFe
import Derived.Test.YtfbddgpekbhpfacGreatDoorXa
/- What shaped of package stairwellref does, of every kind. -/
set_option linter.unusedSimpArgs false
set_option linter.unusedVariables false
namespace Go.Proofs.YtfbddgpekbhpfacGreatDoor
open Go.RowKit

theorem rshaped_all (d : Nat) : ShpC d := by
  induction d with
  | zero => exact fun _ _ _ _ h => h.elim
  | succ d ih =>
    intro w ok t v h
    by_cases h0 : t.kind = 0
    · exact rshaped_k0 d ih w ok t v h h0
    by_cases h1 : t.kind = 1
    · exact rshaped_k1 d ih w ok t v h h1
    by_cases h2 : t.kind = 2
    · exact rshaped_k2 d ih w ok t v h h2
    by_cases h3 : t.kind = 3
    · exact rshaped_k3 d ih w ok t v h h3
    by_cases h4 : t.kind = 4
    · exact rshaped_k4 d ih w ok t v h h4
    by_cases h5 : t.kind = 5
    · exact rshaped_k5 d ih w ok t v h h5
    exact rshaped_k6 d ih w ok t v h ⟨h0, h1, h2, h3, h4, h5⟩
end Go.Proofs.YtfbddgpekbhpfacGreatDoor

/- What depthOf and ascii of package stairwellref do. -/
set_option linter.unusedSimpArgs false
set_option linter.unusedVariables false
namespace Go.Proofs.YtfbddgpekbhpfacGreatDoor
open Go.RowKit

def DptC (d : Nat) : Prop := ∀ (w : World) (ok : Nat → Prop) (t : V) (v : Value), VIs w ok d t v → cnt t ≤ 1000000000000000 →
    Calls Tryz.prog 25 #[v] w fun e w' => e = .returned (.tuple #[.int .i64 (dpt t : Int), .int .i64 (cnt t : Int)]) ∧ Below w.heap.size w w'

set_option maxRecDepth 100000 in
set_option maxHeartbeats 8000000 in
theorem depthOf_succ (d : Nat) (ih : DptC d) : DptC (d + 1) := by
  intro w ok t v h hN
  have IH := hidI ih
  have H := hidI (h.is : In w ok t v)
  obtain ⟨a1, a2, c1, c2, rfl⟩ := h.shape
  have VV : Hid (ValsAre w ok (VIs w ok d) t.l (.slice a2 t.l.length c2)) := hidI (by
    obtain ⟨ks, ls, e, h1, h2, h3, h4, h5⟩ := h
    simp only [Value.agg.injEq, Array.mk.injEq, List.cons.injEq, and_true] at e
    obtain ⟨-, -, -, -, rfl⟩ := e
    exact h5)
  have ll : t.l.length ≤ 9223372036854775807 := VV.out.1
  have B1 := hidI (bel_alloc w (.cells #[.int .i64 t.kind, .int .i64 t.n, .string ⟨t.s.toArray⟩, .slice a1 t.keys.length c1, .slice a2 t.l.length c2] 25))
  have HC := hidI (cnt_eq t)
  have HDT := hidI (dpt_eq t)
  have HN := hidI hN
  clear h ih hN
  go_enter Tryz.func25, Tryz.ntmps25
  go_wp2_with fail
  go_loopg [4, 5, 13] t.l.length (fun gk dd n i wr => ∃ k : Nat, k ≤ t.l.length ∧ gk = t.l.length - k ∧ i = .int .i64 k ∧ dd = .int .i64 (dpts (t.l.take k) : Int) ∧ n = .int .i64 ((1 + cnts (t.l.take k) : Nat) : Int) ∧ Below w.heap.size w wr)
  case atStart => exact ⟨0, Nat.zero_le _, rfl, rfl, rfl, rfl, B1.out⟩
  case round =>
    obtain ⟨k, hk, hgk, rfl, rfl, rfl, hb⟩ := hrel
    have GK := hidI hgk
    have HB := hidI hb
    have q1 := cnts_take (xs := t.l) k
    have q2 := dpts_cnt (t.l.take k)
    have q3 : cnts t.l ≤ 1000000000000000 := by have := HC.out; have := HN.out; omega
    clear hgk hb
    by_cases hlt : k < t.l.length
    · obtain ⟨b, off, rfl, z1, z2, a5, c5, a6, c6, p0, p1, p2, p3, p4, p5⟩ := vals_at VV.out hlt
      unfold maxLen at z2
      replace p0 := cell_bel HB.out p0
      replace p1 := cell_bel HB.out p1
      replace p2 := cell_bel HB.out p2
      replace p3 := cell_bel HB.out p3
      replace p4 := cell_bel HB.out p4
      have P5 := hidI (p5.bel HB.out)
      have w1 : (0 : Int) ≤ (k : Int) := by omega
      have w2 : (k : Int) < (t.l.length : Int) := by omega
      have hx := cnts_mem (List.getElem_mem hlt)
      have hxd := dpt_cnt t.l[k]
      have hxn : cnt t.l[k] ≤ 1000000000000000 := by omega
      have e1 : Hid (dpts (t.l.take (k + 1)) = max (dpts (t.l.take k)) (dpt t.l[k])) := hidI (by rw [take_snocV hlt, dpts_snoc])
      have e2 : Hid (cnts (t.l.take (k + 1)) = cnts (t.l.take k) + cnt t.l[k]) := hidI (by rw [take_snocV hlt, cnts_snoc])
      have q4 := cnts_take (xs := t.l) (k + 1)
      have q5 : cnts (t.l.take k) + cnt t.l[k] ≤ 1000000000000000 := by have := e2.out; omega
      clear p5 q4
      obtain ⟨x, hxe⟩ : ∃ x, dpt t.l[k] = x := ⟨_, rfl⟩
      obtain ⟨m, hme⟩ : ∃ m, cnt t.l[k] = m := ⟨_, rfl⟩
      obtain ⟨dd, hdd⟩ : ∃ m, dpts (t.l.take k) = m := ⟨_, rfl⟩
      obtain ⟨nn, hnn⟩ : ∃ m, cnts (t.l.take k) = m := ⟨_, rfl⟩
      rw [hme] at q5 hx hxn hxd
      rw [hxe] at hxd
      rw [hdd] at q2 ⊢
      rw [hnn] at q1 q2 q5 ⊢
      have X1 := hidI hxe
      have X2 := hidI hme
      have X3 := hidI hdd
      have X4 := hidI hnn
      have XN := hidI hxn
      clear hxe hme hdd hnn hxn
      go_wp2_with fail
      refine (IH.out _ ok t.l[k] _ (by exact P5.out.bel (bel_alloc _ _)) (by rw [X2.out]; exact XN.out)).mono ?_
      rintro e w4 ⟨rfl, hb4⟩
      rw [X1.out, X2.out]
      have HB4 := hidI (bel_trans HB.out (bel_trans (bel_alloc _ _) hb4))
      clear hb4 p0 p1 p2 p3 p4
      by_cases hmx : dd ≤ x
      · have m1 : max (dd : Int) (x : Int) = (x : Int) := by omega
        go_wp2_with fail
        go_roundg (t.l.length - (k + 1))
        case measure => rw [GK.out]; omega
        case rel => exact ⟨k + 1, hlt, rfl, by go_num, by rw [e1.out, X1.out, X3.out, Nat.max_eq_right hmx], by rw [e2.out, X2.out, X4.out]; go_num, HB4.out⟩
      · have m1 : max (dd : Int) (x : Int) = (dd : Int) := by omega
        go_wp2_with fail
        go_roundg (t.l.length - (k + 1))
        case measure => rw [GK.out]; omega
        case rel => exact ⟨k + 1, hlt, rfl, by go_num, by rw [e1.out, X1.out, X3.out, Nat.max_eq_left (by omega)], by rw [e2.out, X2.out, X4.out]; go_num, HB4.out⟩
    · have l1 : t.l.take k = t.l := List.take_of_length_le (by omega)
      have d1 : ¬ (k : Int) < (t.l.length : Int) := by omega
      rw [l1] at q2 q1 ⊢
      have F1 : Hid (((dpts t.l : Int) + 1) = (dpt t : Int)) := hidI (by rw [HDT.out]; omega)
      have F2 : Hid (((1 + cnts t.l : Nat) : Int) = (cnt t : Int)) := hidI (by rw [HC.out])
      clear l1
      go_wp2_with fail
      go_ret2
      exact ⟨by rw [← F1.out, ← F2.out]; rfl, HB.out⟩
theorem depthOf_all (d : Nat) : DptC d := by
  induction d with
  | zero => exact fun _ _ _ _ h => h.elim
  | succ d ih => exact depthOf_succ d ih
theorem depthOf_is (w : World) (ok : Nat → Prop) (t : V) (v : Value) (h : In w ok t v) (hN : cnt t ≤ 1000000000000000) :
    Calls Tryz.prog 25 #[v] w fun e w' => e = .returned (.tuple #[.int .i64 (dpt t : Int), .int .i64 (cnt t : Int)]) ∧ Below w.heap.size w w' := by
  obtain ⟨d, h⟩ := h; exact depthOf_all d w ok t v h hN
end Go.Proofs.YtfbddgpekbhpfacGreatDoor

/- What GoodValue of package stairwellref answers: what Good answers. -/
set_option linter.unusedSimpArgs false
set_option linter.unusedVariables false
namespace Go.Proofs.YtfbddgpekbhpfacGreatDoor
open Go.RowKit

theorem rshaped_is (w : World) (ok : Nat → Prop) (t : V) (v : Value) (h : In w ok t v) :
    Calls Tryz.prog 26 #[v] w fun e w' => e = .returned (.bool (shp t)) ∧ Below w.heap.size w w' := by
  obtain ⟨d, h⟩ := h; exact rshaped_all d w ok t v h
set_option maxRecDepth 100000 in
set_option maxHeartbeats 8000000 in
theorem rgood_is (w : World) (ok : Nat → Prop) (t : V) (v : Value) (h : In w ok t v) (hN : cnt t ≤ 1000000000000000) :
    Calls Tryz.prog 15 #[v] w fun e w' => e = .returned (.bool (goodV t)) ∧ Below w.heap.size w w' := by
  have H := hidI h
  have HG := hidI (good_ref t)
  have hd := dpt_cnt t
  obtain ⟨a1, a2, c1, c2, rfl⟩ := h.form
  clear h
  have HN := hidI hN
  obtain ⟨x, hx⟩ : ∃ x, dpt t = x := ⟨_, rfl⟩
  obtain ⟨m, hm⟩ : ∃ m, cnt t = m := ⟨_, rfl⟩
  rw [hm] at hd hN
  rw [hx] at hd
  have X := hidI hx
  have M := hidI hm
  clear hx hm
  go_enter Tryz.func15, Tryz.ntmps15
  go_wp2_with fail
  refine (depthOf_is _ ok t _ (by exact H.out.bel (bel_alloc _ _)) HN.out).mono ?_
  rintro e w1 ⟨rfl, hb1⟩
  rw [X.out, M.out]
  have K1 : Hid (BoxIs w1 w.heap.size (.int .i64 t.kind) (.int .i64 t.n) (.string ⟨t.s.toArray⟩) (.slice a1 t.keys.length c1) (.slice a2 t.l.length c2) ∧ Below w.heap.size w w1) := hidI ⟨box_bel hb1 (heap_alloc_new w _), bel_trans (bel_alloc _ _) hb1⟩
  clear hb1
  obtain ⟨y0, y1, y2, y3, y4, -⟩ := K1.out.1.c
  by_cases h1 : x ≤ 12
  · have q1 : (x : Int) ≤ 12 := by omega
    by_cases h2 : m ≤ 120
    · have q2 : (m : Int) ≤ 120 := by omega
      have HR : Hid (goodV t = shp t) := hidI (by rw [← HG.out, X.out, M.out]; simp [h1, h2])
      clear h1 h2
      go_wp2_with fail
      refine (rshaped_is _ ok t _ (by exact H.out.bel K1.out.2)).mono ?_
      rintro e w2 ⟨rfl, hb2⟩
      have B2 := hidI (bel_trans K1.out.2 hb2)
      clear hb2
      go_wp2_with fail
      go_ret
      exact ⟨by rw [HR.out]; rfl, B2.out⟩
    · have q2 : ¬ (m : Int) ≤ 120 := by omega
      have HR : Hid (goodV t = false) := hidI (by rw [← HG.out, X.out, M.out]; simp [h2])
      clear h1 h2
      go_wp2_with fail
      go_ret
      exact ⟨by rw [HR.out]; rfl, K1.out.2⟩
  · have q1 : ¬ (x : Int) ≤ 12 := by omega
    have HR : Hid (goodV t = false) := hidI (by rw [← HG.out, X.out, M.out]; simp [h1])
    clear h1
    go_wp2_with fail
    go_ret
    exact ⟨by rw [HR.out]; rfl, K1.out.2⟩
end Go.Proofs.YtfbddgpekbhpfacGreatDoor

/- How many values there are in what is merged, and in what is other. -/
set_option linter.unusedSimpArgs false
set_option linter.unusedVariables false
namespace Go.Proofs.YtfbddgpekbhpfacGreatDoor
open Go.RowKit
/- How many values there are in what is merged, and in what is other. -/
theorem cnts_append (xs ys : List V) : cnts (xs ++ ys) = cnts xs + cnts ys := by simp [cnts]
theorem cnts_take_le (xs : List V) (k : Nat) : cnts (xs.take k) + cnts (xs.drop k) = cnts xs := by rw [← cnts_append, List.take_append_drop]
theorem cnts_drop_le (xs : List V) (k : Nat) : cnts (xs.drop (k + 1)) ≤ cnts (xs.drop k) := by
  by_cases h : k < xs.length
  · rw [cnts_drop h]; omega
  · rw [List.drop_eq_nil_of_le (by omega), List.drop_eq_nil_of_le (by omega)]; omega
theorem cnt_with (t : V) (k : List UInt8) (x : V) : cnt (withV t k x) ≤ cnt t + cnt x := by
  unfold withV
  split
  · split
    · rename_i i _
      rw [cnt_eq, cnt_eq t]
      simp only [cnts_append, cnts_cons]
      have h1 := cnts_take_le t.l i
      have h2 := cnts_drop_le t.l i
      omega
    · rw [cnt_eq, cnt_eq t]
      simp only [cnts_append, cnts_cons]
      have h1 := cnts_take_le t.l (insV k t.keys)
      omega
  · omega
theorem cnt_pos (t : V) : 1 ≤ cnt t := by rw [cnt_eq]; omega
theorem cnt_zero : cnt zeroT = 1 := by rw [cnt_eq]; rfl
theorem cnt_objT : cnt objT = 1 := by rw [cnt_eq]; rfl
theorem cnt_member (v : V) (k : List UInt8) : cnt ((memV v k).getD zeroT) ≤ cnt v := by
  cases hm : memV v k with
  | none => simp only [Option.getD_none, cnt_zero]; exact cnt_pos v
  | some x => rw [Option.getD_some, cnt_eq v]; have := cnts_mem (mem_in hm); omega
theorem cnts_zip : ∀ (ks : List (List UInt8)) (l : List V), ((ks.zip l).map fun q => cnt q.2).sum ≤ cnts l
  | [], l => by simp
  | k :: ks, [] => by simp
  | k :: ks, x :: l => by
    have := cnts_zip ks l
    simp only [List.zip_cons_cons, List.map_cons, List.sum_cons, cnts_cons]
    omega
theorem fold_cnt {β : Type} {step : V → β → V} {c : β → Nat} : ∀ (ps : List β) (v : V), (∀ v, ∀ q ∈ ps, cnt (step v q) ≤ cnt v + c q) → cnt (ps.foldl step v) ≤ cnt v + (ps.map c).sum
  | [], v, _ => by simp
  | q :: ps, v, hs => by
    have h1 := fold_cnt ps (step v q) fun v r hr => hs v r (by simp [hr])
    have h2 := hs v q (by simp)
    simp only [List.foldl_cons, List.map_cons, List.sum_cons]
    omega
theorem sum_le {β : Type} {c d : β → Nat} : ∀ (ps : List β), (∀ q ∈ ps, c q ≤ d q) → (ps.map c).sum ≤ (ps.map d).sum
  | [], _ => by simp
  | q :: ps, h => by
    have h1 := sum_le ps fun r hr => h r (by simp [hr])
    have h2 := h q (by simp)
    simp only [List.map_cons, List.sum_cons]
    omega
theorem sum_mul {β : Type} {c : β → Nat} (m : Nat) : ∀ (ps : List β), (ps.map fun q => m * c q).sum = m * (ps.map c).sum
  | [] => by simp
  | q :: ps => by simp only [List.map_cons, List.sum_cons, sum_mul m ps, Nat.mul_add]
theorem kept_cnt (v p : V) : cnt (keptV v p) ≤ cnt v := by
  unfold keptV
  split
  · have h1 := fold_cnt (step := stepK p) (c := fun q => cnt q.2) (v.keys.zip v.l) objT (fun v q _ => by
      unfold stepK
      split
      · omega
      · exact cnt_with v q.1 q.2)
    have h2 := cnts_zip v.keys v.l
    rw [cnt_objT] at h1
    rw [cnt_eq v]; omega
  · rw [cnt_objT]; exact cnt_pos v
theorem prod_step {D A B L S : Nat} (hA : 1 ≤ A) (hB : B = 1 + L) {t0 : Nat} (h0 : t0 ≤ A) (hS : S ≤ L) {t : Nat} (h : t ≤ t0 + (D + 1) * A * S) : t ≤ (D + 1 + 1) * (A * B) := by
  have h4 : (D + 1) * A * S ≤ (D + 1) * A * L := Nat.mul_le_mul_left _ hS
  have h6 : (D + 1 + 1) * (A * B) = (D + 1) * A * L + (D + 1) * A + A * B := by
    rw [Nat.add_mul (D + 1) 1, hB, Nat.mul_add, Nat.mul_one, Nat.mul_add, Nat.one_mul, Nat.mul_assoc]; omega
  have h7 : A ≤ A * B := Nat.le_mul_of_pos_right _ (by omega)
  omega
theorem nice_oldC {v : V} (h : Nice v) (k : List UInt8) : Nice ((memV v k).getD zeroT) := by
  cases hm : memV v k with
  | none => exact nice_zero
  | some x => exact nice_mem h (mem_in hm)
theorem merge_cnt : ∀ (D : Nat) (v p : V), Nice v → Nice p → cnt (mergeF D v p) ≤ (D + 1) * (cnt v * cnt p)
  | 0, v, p, _, _ => by
    have hA := cnt_pos v
    simp only [mergeF]
    have : cnt p ≤ cnt v * cnt p := Nat.le_mul_of_pos_left _ hA
    omega
  | D + 1, v, p, nv, np => by
    have hA := cnt_pos v
    have hB := cnt_pos p
    by_cases hk : p.kind = 5
    · rw [← rmerge_eq (nice_ob np hk) (nice_ob nv)]
      have h1 := fold_cnt (step := stepN (mergeF D) v) (c := fun q => (D + 1) * cnt v * cnt q.2) (p.keys.zip p.l) (keptV v p) (fun o q hq => by
        unfold stepN
        split
        · omega
        · refine Nat.le_trans (cnt_with _ _ _) ?_
          have h2 := merge_cnt D ((memV v q.1).getD zeroT) q.2 (nice_oldC nv q.1) (nice_mem np (List.of_mem_zip (a := q.1) (b := q.2) hq).2)
          have h3 : (D + 1) * (cnt ((memV v q.1).getD zeroT) * cnt q.2) ≤ (D + 1) * cnt v * cnt q.2 := by
            rw [Nat.mul_assoc]
            exact Nat.mul_le_mul_left _ (Nat.mul_le_mul_right _ (cnt_member v q.1))
          omega)
      rw [sum_mul] at h1
      exact prod_step hA (cnt_eq p) (kept_cnt v p) (cnts_zip p.keys p.l) h1
    · have e : mergeF (D + 1) v p = p := by rw [mergeF, if_neg hk]
      rw [e]
      have h1 : cnt p ≤ cnt v * cnt p := Nat.le_mul_of_pos_left _ hA
      have h2 : cnt v * cnt p ≤ (D + 1 + 1) * (cnt v * cnt p) := Nat.le_mul_of_pos_left _ (by omega)
      omega
theorem gone_cnt (a b : V) : cnt (goneV a b) ≤ cnt a := by
  unfold goneV
  have h1 := fold_cnt (step := stepG b) (c := fun q => cnt q.2) (a.keys.zip a.l) objT (fun v q _ => by
    unfold stepG
    split
    · omega
    · refine Nat.le_trans (cnt_with _ _ _) ?_
      rw [cnt_zero]; have := cnt_pos q.2; omega)
  have h2 := cnts_zip a.keys a.l
  rw [cnt_objT] at h1
  rw [cnt_eq a]; omega
theorem diff_cnt : ∀ (D : Nat) (a b : V), cnt (diffF D a b) ≤ (D + 1) * (cnt a * cnt b)
  | 0, a, b => by
    have hA := cnt_pos a
    simp only [diffF]
    have : cnt b ≤ cnt a * cnt b := Nat.le_mul_of_pos_left _ hA
    omega
  | D + 1, a, b => by
    have hA := cnt_pos a
    have hB := cnt_pos b
    by_cases hk : a.kind = 5 ∧ b.kind = 5
    · have e : diffF (D + 1) a b = (b.keys.zip b.l).foldl (stepD (diffF D) a) (goneV a b) := by rw [diffF, if_pos hk]
      rw [e]
      have h1 := fold_cnt (step := stepD (diffF D) a) (c := fun q => (D + 1) * cnt a * cnt q.2) (b.keys.zip b.l) (goneV a b) (fun o q hq => by
        have hq2 : cnt q.2 ≤ (D + 1) * cnt a * cnt q.2 := Nat.le_mul_of_pos_left _ (Nat.mul_pos (by omega) hA)
        unfold stepD
        cases hm : memV a q.1 with
        | none => exact Nat.le_trans (cnt_with _ _ _) (by omega)
        | some y =>
          simp only
          split
          · omega
          · refine Nat.le_trans (cnt_with _ _ _) ?_
            have h2 := diff_cnt D y q.2
            have h4 : cnt y ≤ cnt a := by rw [cnt_eq a]; have := cnts_mem (mem_in hm); omega
            have h3 : (D + 1) * (cnt y * cnt q.2) ≤ (D + 1) * cnt a * cnt q.2 := by
              rw [Nat.mul_assoc]
              exact Nat.mul_le_mul_left _ (Nat.mul_le_mul_right _ h4)
            omega)
      rw [sum_mul] at h1
      exact prod_step hA (cnt_eq b) (gone_cnt a b) (cnts_zip b.keys b.l) h1
    · have e : diffF (D + 1) a b = b := by rw [diffF, if_neg hk]
      rw [e]
      have h1 : cnt b ≤ cnt a * cnt b := Nat.le_mul_of_pos_left _ hA
      have h2 : cnt a * cnt b ≤ (D + 1 + 1) * (cnt a * cnt b) := Nat.le_mul_of_pos_left _ (by omega)
      omega
end Go.Proofs.YtfbddgpekbhpfacGreatDoor

/- What MergeValues and DiffOf of package stairwellref do. -/
set_option linter.unusedSimpArgs false
set_option linter.unusedVariables false
namespace Go.Proofs.YtfbddgpekbhpfacGreatDoor
open Go.RowKit

set_option maxRecDepth 100000 in
set_option maxHeartbeats 40000000 in
theorem rmergeV_is (w : World) (ok : Nat → Prop) (v p : V) (vv pv : Value) (h : In w ok v vv) (hp : In w ok p pv) (cv : cnt v ≤ 2000000) (cp : cnt p ≤ 2000000) :
    Calls Tryz.prog 6 #[vv, pv] w fun e w' => ∃ r, e = .returned (.tuple #[r, .int .i64 (mergeR v p).2]) ∧ Below w.heap.size w w' ∧ In w' (okN ok w.heap.size) (mergeR v p).1 r := by
  have H := hidI h.low
  have HP := hidI hp.low
  obtain ⟨l1, l2, l3⟩ := h.lens
  obtain ⟨l4, l5, l6⟩ := hp.lens
  obtain ⟨a1, a2, c1, c2, rfl⟩ := h.form
  obtain ⟨a3, a4, c3, c4, rfl⟩ := hp.form
  have CVn : Hid (cnt v ≤ 1000000000000000) := hidI (by omega)
  have CPn : Hid (cnt p ≤ 1000000000000000) := hidI (by omega)
  have CC : Hid (13 * (cnt v * cnt p) ≤ 1000000000000000) := hidI (by have := Nat.mul_le_mul cv cp; omega)
  clear h hp
  have B3 : Hid (∀ o1 o2 o3, Below w.heap.size w (((w.alloc o1).alloc o2).alloc o3)) := fun o1 o2 o3 => bel_trans (bel_trans (bel_alloc _ _) (bel_alloc _ _)) (bel_alloc _ _)
  cases gv : goodV v with
  | false =>
    have GV := hidI gv
    clear gv
    go_enter Tryz.func6, Tryz.ntmps6
    go_wp2_with fail
    refine (rgood_is _ _ v _ (by exact H.out.bel (B3.out _ _ _)) CVn.out).mono ?_
    rintro e w1 ⟨rfl, hb1⟩
    rw [GV.out]
    have K1 : Hid (BoxIs w1 w.heap.size (.int .i64 v.kind) (.int .i64 v.n) (.string ⟨v.s.toArray⟩) (.slice a1 v.keys.length c1) (.slice a2 v.l.length c2) ∧ BoxIs w1 (w.heap.size + 1) (.int .i64 p.kind) (.int .i64 p.n) (.string ⟨p.s.toArray⟩) (.slice a3 p.keys.length c3) (.slice a4 p.l.length c4) ∧ BoxIs w1 (w.heap.size + 2) (.int .i64 0) (.int .i64 0) (.string ⟨#[]⟩) (.slice none 0 0) (.slice none 0 0) ∧ Below w.heap.size w w1) := hidI ⟨box_bel hb1 (h3a w _ _ _), box_bel hb1 (h3b w _ _ _), box_bel hb1 (h3c w _ _ _), bel_trans (B3.out _ _ _) hb1⟩
    clear hb1
    obtain ⟨y0, y1, y2, y3, y4, -⟩ := K1.out.1.c
    obtain ⟨z0, z1, z2, z3, z4, z5, z6, z7, z8, z9⟩ := K1.out.2.2.1.c
    have Z : Hid (_ ∧ _) := hidI (sto_out (ok := ok) (g := w.heap.size + 2) (C := w.heap.size + 3) ((H.out.bel K1.out.2.2.2).weak lowN_low) K1.out.2.2.2 (by omega) (by omega))
    have ZB : Hid _ := hidI (K1.out.2.2.1.set (.int .i64 v.kind) (.int .i64 v.n) (.string ⟨v.s.toArray⟩) (.slice a1 v.keys.length c1) (.slice a2 v.l.length c2))
    have HA : Hid (mergeR v p = (v, 1)) := hidI (by unfold mergeR; rw [if_pos (by simp [GV.out])])
    go_wp2_with fail
    obtain ⟨q0, q1, q2, q3, q4, -⟩ := ZB.out.c
    refine bodyPost_ret (v := .tuple #[.agg #[.int .i64 v.kind, .int .i64 v.n, .string ⟨v.s.toArray⟩, .slice a1 v.keys.length c1, .slice a2 v.l.length c2], .int .i64 1]) ?_ rfl ?_
    · simp only [set5] at q0 q1 q2 q3 q4
      simp [results, Tryz.results6, go_sem, q0, q1, q2, q3, q4]
    · exact ⟨_, by rw [HA.out], Z.out.1, by rw [HA.out]; exact Z.out.2⟩
  | true =>
    have GV := hidI gv
    have NV : Hid (Nice v) := hidI (nice_of gv)
    clear gv
    cases gp : goodV p with
    | false =>
      have GP := hidI gp
      clear gp
      go_enter Tryz.func6, Tryz.ntmps6
      go_wp2_with fail
      refine (rgood_is _ _ v _ (by exact H.out.bel (B3.out _ _ _)) CVn.out).mono ?_
      rintro e w1 ⟨rfl, hb1⟩
      rw [GV.out]
      have K1 : Hid (BoxIs w1 w.heap.size (.int .i64 v.kind) (.int .i64 v.n) (.string ⟨v.s.toArray⟩) (.slice a1 v.keys.length c1) (.slice a2 v.l.length c2) ∧ BoxIs w1 (w.heap.size + 1) (.int .i64 p.kind) (.int .i64 p.n) (.string ⟨p.s.toArray⟩) (.slice a3 p.keys.length c3) (.slice a4 p.l.length c4) ∧ BoxIs w1 (w.heap.size + 2) (.int .i64 0) (.int .i64 0) (.string ⟨#[]⟩) (.slice none 0 0) (.slice none 0 0) ∧ Below w.heap.size w w1) := hidI ⟨box_bel hb1 (h3a w _ _ _), box_bel hb1 (h3b w _ _ _), box_bel hb1 (h3c w _ _ _), bel_trans (B3.out _ _ _) hb1⟩
      clear hb1
      obtain ⟨p0, p1, p2, p3, p4, -⟩ := K1.out.2.1.c
      go_wp2_with fail
      refine (rgood_is _ _ p _ (by exact HP.out.bel K1.out.2.2.2) CPn.out).mono ?_
      rintro e w2 ⟨rfl, hb2⟩
      rw [GP.out]
      have K2 : Hid (BoxIs w2 w.heap.size (.int .i64 v.kind) (.int .i64 v.n) (.string ⟨v.s.toArray⟩) (.slice a1 v.keys.length c1) (.slice a2 v.l.length c2) ∧ BoxIs w2 (w.heap.size + 1) (.int .i64 p.kind) (.int .i64 p.n) (.string ⟨p.s.toArray⟩) (.slice a3 p.keys.length c3) (.slice a4 p.l.length c4) ∧ BoxIs w2 (w.heap.size + 2) (.int .i64 0) (.int .i64 0) (.string ⟨#[]⟩) (.slice none 0 0) (.slice none 0 0) ∧ Below w.heap.size w w2) := hidI ⟨box_bel hb2 K1.out.1, box_bel hb2 K1.out.2.1, box_bel hb2 K1.out.2.2.1, bel_trans K1.out.2.2.2 hb2⟩
      clear hb2 p0 p1 p2 p3 p4
      obtain ⟨y0, y1, y2, y3, y4, -⟩ := K2.out.1.c
      obtain ⟨z0, z1, z2, z3, z4, z5, z6, z7, z8, z9⟩ := K2.out.2.2.1.c
      have Z : Hid (_ ∧ _) := hidI (sto_out (ok := ok) (g := w.heap.size + 2) (C := w.heap.size + 3) ((H.out.bel K2.out.2.2.2).weak lowN_low) K2.out.2.2.2 (by omega) (by omega))
      have ZB : Hid _ := hidI (K2.out.2.2.1.set (.int .i64 v.kind) (.int .i64 v.n) (.string ⟨v.s.toArray⟩) (.slice a1 v.keys.length c1) (.slice a2 v.l.length c2))
      have HA : Hid (mergeR v p = (v, 1)) := hidI (by unfold mergeR; rw [if_pos (by simp [GV.out, GP.out])])
      go_wp2_with fail
      obtain ⟨q0, q1, q2, q3, q4, -⟩ := ZB.out.c
      refine bodyPost_ret (v := .tuple #[.agg #[.int .i64 v.kind, .int .i64 v.n, .string ⟨v.s.toArray⟩, .slice a1 v.keys.length c1, .slice a2 v.l.length c2], .int .i64 1]) ?_ rfl ?_
      · simp only [set5] at q0 q1 q2 q3 q4
        simp [results, Tryz.results6, go_sem, q0, q1, q2, q3, q4]
      · exact ⟨_, by rw [HA.out], Z.out.1, by rw [HA.out]; exact Z.out.2⟩
    | true =>
      have GP := hidI gp
      have NP : Hid (Nice p) := hidI (nice_of gp)
      have DP : Hid (Dep 12 p) := hidI (GoodT.dep 12 (goodV_tree gp))
      clear gp
      go_enter Tryz.func6, Tryz.ntmps6
      go_wp2_with fail
      refine (rgood_is _ _ v _ (by exact H.out.bel (B3.out _ _ _)) CVn.out).mono ?_
      rintro e w1 ⟨rfl, hb1⟩
      rw [GV.out]
      have K1 : Hid (BoxIs w1 w.heap.size (.int .i64 v.kind) (.int .i64 v.n) (.string ⟨v.s.toArray⟩) (.slice a1 v.keys.length c1) (.slice a2 v.l.length c2) ∧ BoxIs w1 (w.heap.size + 1) (.int .i64 p.kind) (.int .i64 p.n) (.string ⟨p.s.toArray⟩) (.slice a3 p.keys.length c3) (.slice a4 p.l.length c4) ∧ BoxIs w1 (w.heap.size + 2) (.int .i64 0) (.int .i64 0) (.string ⟨#[]⟩) (.slice none 0 0) (.slice none 0 0) ∧ Below w.heap.size w w1) := hidI ⟨box_bel hb1 (h3a w _ _ _), box_bel hb1 (h3b w _ _ _), box_bel hb1 (h3c w _ _ _), bel_trans (B3.out _ _ _) hb1⟩
      clear hb1
      obtain ⟨p0, p1, p2, p3, p4, -⟩ := K1.out.2.1.c
      go_wp2_with fail
      refine (rgood_is _ _ p _ (by exact HP.out.bel K1.out.2.2.2) CPn.out).mono ?_
      rintro e w2 ⟨rfl, hb2⟩
      rw [GP.out]
      have K2 : Hid (BoxIs w2 w.heap.size (.int .i64 v.kind) (.int .i64 v.n) (.string ⟨v.s.toArray⟩) (.slice a1 v.keys.length c1) (.slice a2 v.l.length c2) ∧ BoxIs w2 (w.heap.size + 1) (.int .i64 p.kind) (.int .i64 p.n) (.string ⟨p.s.toArray⟩) (.slice a3 p.keys.length c3) (.slice a4 p.l.length c4) ∧ BoxIs w2 (w.heap.size + 2) (.int .i64 0) (.int .i64 0) (.string ⟨#[]⟩) (.slice none 0 0) (.slice none 0 0) ∧ Below w.heap.size w w2) := hidI ⟨box_bel hb2 K1.out.1, box_bel hb2 K1.out.2.1, box_bel hb2 K1.out.2.2.1, bel_trans K1.out.2.2.2 hb2⟩
      clear hb2 p0 p1 p2 p3 p4
      obtain ⟨p0, p1, p2, p3, p4, -⟩ := K2.out.2.1.c
      obtain ⟨y0, y1, y2, y3, y4, -⟩ := K2.out.1.c
      go_wp2_with fail
      refine (rmerged_is 12 _ (lowN ok w.heap.size (w.heap.size + 3)) v p _ _ (by exact (H.out.bel K2.out.2.2.2).weak lowN_low) (by exact (HP.out.bel K2.out.2.2.2).weak lowN_low) NV.out NP.out DP.out).mono ?_
      rintro e w4 ⟨r, rfl, hb4, hr⟩
      obtain ⟨m, hm⟩ : ∃ m, mergeF 12 v p = m := ⟨_, rfl⟩
      rw [hm] at hr
      obtain ⟨a5, a6, c5, c6, rfl⟩ := hr.form
      have hbb := bel_trans hb4 (bel_alloc w4 (.cells #[.int .i64 m.kind, .int .i64 m.n, .string ⟨m.s.toArray⟩, .slice a5 m.keys.length c5, .slice a6 m.l.length c6] 25))
      have K4 : Hid (BoxIs (w4.alloc (.cells #[.int .i64 m.kind, .int .i64 m.n, .string ⟨m.s.toArray⟩, .slice a5 m.keys.length c5, .slice a6 m.l.length c6] 25)) w.heap.size (.int .i64 v.kind) (.int .i64 v.n) (.string ⟨v.s.toArray⟩) (.slice a1 v.keys.length c1) (.slice a2 v.l.length c2) ∧ BoxIs (w4.alloc (.cells #[.int .i64 m.kind, .int .i64 m.n, .string ⟨m.s.toArray⟩, .slice a5 m.keys.length c5, .slice a6 m.l.length c6] 25)) (w.heap.size + 1) (.int .i64 p.kind) (.int .i64 p.n) (.string ⟨p.s.toArray⟩) (.slice a3 p.keys.length c3) (.slice a4 p.l.length c4) ∧ BoxIs (w4.alloc (.cells #[.int .i64 m.kind, .int .i64 m.n, .string ⟨m.s.toArray⟩, .slice a5 m.keys.length c5, .slice a6 m.l.length c6] 25)) (w.heap.size + 2) (.int .i64 0) (.int .i64 0) (.string ⟨#[]⟩) (.slice none 0 0) (.slice none 0 0) ∧ Below w.heap.size w (w4.alloc (.cells #[.int .i64 m.kind, .int .i64 m.n, .string ⟨m.s.toArray⟩, .slice a5 m.keys.length c5, .slice a6 m.l.length c6] 25))) := hidI ⟨box_bel hbb K2.out.1, box_bel hbb K2.out.2.1, box_bel hbb K2.out.2.2.1, bel_trans K2.out.2.2.2 hbb⟩
      have M4 : Hid (In (w4.alloc (.cells #[.int .i64 m.kind, .int .i64 m.n, .string ⟨m.s.toArray⟩, .slice a5 m.keys.length c5, .slice a6 m.l.length c6] 25)) (lowN ok w.heap.size (w.heap.size + 3)) m (.agg #[.int .i64 m.kind, .int .i64 m.n, .string ⟨m.s.toArray⟩, .slice a5 m.keys.length c5, .slice a6 m.l.length c6]) ∧ BoxIs (w4.alloc (.cells #[.int .i64 m.kind, .int .i64 m.n, .string ⟨m.s.toArray⟩, .slice a5 m.keys.length c5, .slice a6 m.l.length c6] 25)) w4.heap.size (.int .i64 m.kind) (.int .i64 m.n) (.string ⟨m.s.toArray⟩) (.slice a5 m.keys.length c5) (.slice a6 m.l.length c6)) := hidI ⟨(hr.weak (lowN_up K2.out.2.2.1.lt)).bel (bel_alloc _ _), heap_alloc_new w4 _⟩
      have HM := hidI hm
      have CM : Hid (cnt m ≤ 1000000000000000) := hidI (by rw [← HM.out]; exact Nat.le_trans (merge_cnt 12 v p NV.out NP.out) CC.out)
      clear hm hr hb4 hbb p0 p1 p2 p3 p4 y0 y1 y2 y3 y4
      go_wp2_with fail
      refine (rgood_is _ _ m _ (by exact M4.out.1) CM.out).mono ?_
      rintro e w5 ⟨rfl, hb5⟩
      have K5 : Hid (BoxIs w5 w.heap.size (.int .i64 v.kind) (.int .i64 v.n) (.string ⟨v.s.toArray⟩) (.slice a1 v.keys.length c1) (.slice a2 v.l.length c2) ∧ BoxIs w5 (w.heap.size + 1) (.int .i64 p.kind) (.int .i64 p.n) (.string ⟨p.s.toArray⟩) (.slice a3 p.keys.length c3) (.slice a4 p.l.length c4) ∧ BoxIs w5 (w.heap.size + 2) (.int .i64 0) (.int .i64 0) (.string ⟨#[]⟩) (.slice none 0 0) (.slice none 0 0) ∧ Below w.heap.size w w5) := hidI ⟨box_bel hb5 K4.out.1, box_bel hb5 K4.out.2.1, box_bel hb5 K4.out.2.2.1, bel_trans K4.out.2.2.2 hb5⟩
      have M5 : Hid (In w5 (lowN ok w.heap.size (w.heap.size + 3)) m (.agg #[.int .i64 m.kind, .int .i64 m.n, .string ⟨m.s.toArray⟩, .slice a5 m.keys.length c5, .slice a6 m.l.length c6]) ∧ BoxIs w5 w4.heap.size (.int .i64 m.kind) (.int .i64 m.n) (.string ⟨m.s.toArray⟩) (.slice a5 m.keys.length c5) (.slice a6 m.l.length c6)) := hidI ⟨M4.out.1.bel hb5, box_bel hb5 M4.out.2⟩
      clear hb5
      cases gm : goodV m with
      | false =>
        have GM := hidI gm
        clear gm
        obtain ⟨y0, y1, y2, y3, y4, -⟩ := K5.out.1.c
        obtain ⟨z0, z1, z2, z3, z4, z5, z6, z7, z8, z9⟩ := K5.out.2.2.1.c
        have Z : Hid (_ ∧ _) := hidI (sto_out (ok := ok) (g := w.heap.size + 2) (C := w.heap.size + 3) ((H.out.bel K5.out.2.2.2).weak lowN_low) K5.out.2.2.2 (by omega) (by omega))
        have ZB : Hid _ := hidI (K5.out.2.2.1.set (.int .i64 v.kind) (.int .i64 v.n) (.string ⟨v.s.toArray⟩) (.slice a1 v.keys.length c1) (.slice a2 v.l.length c2))
        have HA : Hid (mergeR v p = (v, 2)) := hidI (by unfold mergeR; rw [if_neg (by simp [GV.out, GP.out]), HM.out, if_neg (by simp [GM.out])])
        go_wp2_with fail
        obtain ⟨q0, q1, q2, q3, q4, -⟩ := ZB.out.c
        refine bodyPost_ret (v := .tuple #[.agg #[.int .i64 v.kind, .int .i64 v.n, .string ⟨v.s.toArray⟩, .slice a1 v.keys.length c1, .slice a2 v.l.length c2], .int .i64 2]) ?_ rfl ?_
        · simp only [set5] at q0 q1 q2 q3 q4
          simp [results, Tryz.results6, go_sem, q0, q1, q2, q3, q4]
        · exact ⟨_, by rw [HA.out], Z.out.1, by rw [HA.out]; exact Z.out.2⟩
      | true =>
        have GM := hidI gm
        clear gm
        obtain ⟨y0, y1, y2, y3, y4, -⟩ := M5.out.2.c
        obtain ⟨z0, z1, z2, z3, z4, z5, z6, z7, z8, z9⟩ := K5.out.2.2.1.c
        have Z : Hid (_ ∧ _) := hidI (sto_out (ok := ok) (g := w.heap.size + 2) (C := w.heap.size + 3) M5.out.1 K5.out.2.2.2 (by omega) (by omega))
        have ZB : Hid _ := hidI (K5.out.2.2.1.set (.int .i64 m.kind) (.int .i64 m.n) (.string ⟨m.s.toArray⟩) (.slice a5 m.keys.length c5) (.slice a6 m.l.length c6))
        have HA : Hid (mergeR v p = (m, 0)) := hidI (by unfold mergeR; rw [if_neg (by simp [GV.out, GP.out]), HM.out, if_pos GM.out])
        go_wp2_with fail
        obtain ⟨q0, q1, q2, q3, q4, -⟩ := ZB.out.c
        refine bodyPost_ret (v := .tuple #[.agg #[.int .i64 m.kind, .int .i64 m.n, .string ⟨m.s.toArray⟩, .slice a5 m.keys.length c5, .slice a6 m.l.length c6], .int .i64 0]) ?_ rfl ?_
        · simp only [set5] at q0 q1 q2 q3 q4
          simp [results, Tryz.results6, go_sem, q0, q1, q2, q3, q4]
        · exact ⟨_, by rw [HA.out], Z.out.1, by rw [HA.out]; exact Z.out.2⟩

set_option maxRecDepth 100000 in
set_option maxHeartbeats 40000000 in
theorem rdiffV_is (w : World) (ok : Nat → Prop) (v p : V) (vv pv : Value) (h : In w ok v vv) (hp : In w ok p pv) (cv : cnt v ≤ 2000000) (cp : cnt p ≤ 2000000) :
    Calls Tryz.prog 11 #[vv, pv] w fun e w' => ∃ r, e = .returned (.tuple #[r, .int .i64 (diffR v p).2]) ∧ Below w.heap.size w w' ∧ In w' (okN ok w.heap.size) (diffR v p).1 r := by
  have H := hidI h.low
  have HP := hidI hp.low
  obtain ⟨l1, l2, l3⟩ := h.lens
  obtain ⟨l4, l5, l6⟩ := hp.lens
  obtain ⟨a1, a2, c1, c2, rfl⟩ := h.form
  obtain ⟨a3, a4, c3, c4, rfl⟩ := hp.form
  have CVn : Hid (cnt v ≤ 1000000000000000) := hidI (by omega)
  have CPn : Hid (cnt p ≤ 1000000000000000) := hidI (by omega)
  have CC : Hid (13 * (cnt v * cnt p) ≤ 1000000000000000) := hidI (by have := Nat.mul_le_mul cv cp; omega)
  clear h hp
  have B3 : Hid (∀ o1 o2 o3, Below w.heap.size w (((w.alloc o1).alloc o2).alloc o3)) := fun o1 o2 o3 => bel_trans (bel_trans (bel_alloc _ _) (bel_alloc _ _)) (bel_alloc _ _)
  cases gv : goodV v with
  | false =>
    have GV := hidI gv
    clear gv
    go_enter Tryz.func11, Tryz.ntmps11
    go_wp2_with fail
    refine (rgood_is _ _ v _ (by exact H.out.bel (B3.out _ _ _)) CVn.out).mono ?_
    rintro e w1 ⟨rfl, hb1⟩
    rw [GV.out]
    have K1 : Hid (BoxIs w1 w.heap.size (.int .i64 v.kind) (.int .i64 v.n) (.string ⟨v.s.toArray⟩) (.slice a1 v.keys.length c1) (.slice a2 v.l.length c2) ∧ BoxIs w1 (w.heap.size + 1) (.int .i64 p.kind) (.int .i64 p.n) (.string ⟨p.s.toArray⟩) (.slice a3 p.keys.length c3) (.slice a4 p.l.length c4) ∧ BoxIs w1 (w.heap.size + 2) (.int .i64 0) (.int .i64 0) (.string ⟨#[]⟩) (.slice none 0 0) (.slice none 0 0) ∧ Below w.heap.size w w1) := hidI ⟨box_bel hb1 (h3a w _ _ _), box_bel hb1 (h3b w _ _ _), box_bel hb1 (h3c w _ _ _), bel_trans (B3.out _ _ _) hb1⟩
    clear hb1
    obtain ⟨z0, z1, z2, z3, z4, z5, z6, z7, z8, z9⟩ := K1.out.2.2.1.c
    have Z : Hid (_ ∧ _) := hidI (sto_out (ok := ok) (g := w.heap.size + 2) (C := w.heap.size + 3) (in_zero _ _) K1.out.2.2.2 (by omega) (by omega))
    have ZB : Hid _ := hidI (K1.out.2.2.1.set (.int .i64 0) (.int .i64 0) (.string ⟨#[]⟩) (.slice none 0 0) (.slice none 0 0))
    have HA : Hid (diffR v p = (zeroT, 1)) := hidI (by unfold diffR; rw [if_pos (by simp [GV.out])])
    go_wp2_with fail
    obtain ⟨q0, q1, q2, q3, q4, -⟩ := ZB.out.c
    refine bodyPost_ret (v := .tuple #[.agg #[.int .i64 0, .int .i64 0, .string ⟨#[]⟩, .slice none 0 0, .slice none 0 0], .int .i64 1]) ?_ rfl ?_
    · simp only [set5] at q0 q1 q2 q3 q4
      simp [results, Tryz.results11, go_sem, q0, q1, q2, q3, q4]
    · exact ⟨_, by rw [HA.out], Z.out.1, by rw [HA.out]; exact Z.out.2⟩
  | true =>
    have GV := hidI gv
    have NV : Hid (Nice v) := hidI (nice_of gv)
    clear gv
    cases gp : goodV p with
    | false =>
      have GP := hidI gp
      clear gp
      go_enter Tryz.func11, Tryz.ntmps11
      go_wp2_with fail
      refine (rgood_is _ _ v _ (by exact H.out.bel (B3.out _ _ _)) CVn.out).mono ?_
      rintro e w1 ⟨rfl, hb1⟩
      rw [GV.out]
      have K1 : Hid (BoxIs w1 w.heap.size (.int .i64 v.kind) (.int .i64 v.n) (.string ⟨v.s.toArray⟩) (.slice a1 v.keys.length c1) (.slice a2 v.l.length c2) ∧ BoxIs w1 (w.heap.size + 1) (.int .i64 p.kind) (.int .i64 p.n) (.string ⟨p.s.toArray⟩) (.slice a3 p.keys.length c3) (.slice a4 p.l.length c4) ∧ BoxIs w1 (w.heap.size + 2) (.int .i64 0) (.int .i64 0) (.string ⟨#[]⟩) (.slice none 0 0) (.slice none 0 0) ∧ Below w.heap.size w w1) := hidI ⟨box_bel hb1 (h3a w _ _ _), box_bel hb1 (h3b w _ _ _), box_bel hb1 (h3c w _ _ _), bel_trans (B3.out _ _ _) hb1⟩
      clear hb1
      obtain ⟨p0, p1, p2, p3, p4, -⟩ := K1.out.2.1.c
      go_wp2_with fail
      refine (rgood_is _ _ p _ (by exact HP.out.bel K1.out.2.2.2) CPn.out).mono ?_
      rintro e w2 ⟨rfl, hb2⟩
      rw [GP.out]
      have K2 : Hid (BoxIs w2 w.heap.size (.int .i64 v.kind) (.int .i64 v.n) (.string ⟨v.s.toArray⟩) (.slice a1 v.keys.length c1) (.slice a2 v.l.length c2) ∧ BoxIs w2 (w.heap.size + 1) (.int .i64 p.kind) (.int .i64 p.n) (.string ⟨p.s.toArray⟩) (.slice a3 p.keys.length c3) (.slice a4 p.l.length c4) ∧ BoxIs w2 (w.heap.size + 2) (.int .i64 0) (.int .i64 0) (.string ⟨#[]⟩) (.slice none 0 0) (.slice none 0 0) ∧ Below w.heap.size w w2) := hidI ⟨box_bel hb2 K1.out.1, box_bel hb2 K1.out.2.1, box_bel hb2 K1.out.2.2.1, bel_trans K1.out.2.2.2 hb2⟩
      clear hb2 p0 p1 p2 p3 p4
      obtain ⟨z0, z1, z2, z3, z4, z5, z6, z7, z8, z9⟩ := K2.out.2.2.1.c
      have Z : Hid (_ ∧ _) := hidI (sto_out (ok := ok) (g := w.heap.size + 2) (C := w.heap.size + 3) (in_zero _ _) K2.out.2.2.2 (by omega) (by omega))
      have ZB : Hid _ := hidI (K2.out.2.2.1.set (.int .i64 0) (.int .i64 0) (.string ⟨#[]⟩) (.slice none 0 0) (.slice none 0 0))
      have HA : Hid (diffR v p = (zeroT, 1)) := hidI (by unfold diffR; rw [if_pos (by simp [GV.out, GP.out])])
      go_wp2_with fail
      obtain ⟨q0, q1, q2, q3, q4, -⟩ := ZB.out.c
      refine bodyPost_ret (v := .tuple #[.agg #[.int .i64 0, .int .i64 0, .string ⟨#[]⟩, .slice none 0 0, .slice none 0 0], .int .i64 1]) ?_ rfl ?_
      · simp only [set5] at q0 q1 q2 q3 q4
        simp [results, Tryz.results11, go_sem, q0, q1, q2, q3, q4]
      · exact ⟨_, by rw [HA.out], Z.out.1, by rw [HA.out]; exact Z.out.2⟩
    | true =>
      have GP := hidI gp
      have NP : Hid (Nice p) := hidI (nice_of gp)
      have DP : Hid (Dep 12 p) := hidI (GoodT.dep 12 (goodV_tree gp))
      clear gp
      have CP : Hid (cleanF 12 p = cln p) := hidI (clean_cln 12 p (goodV_tree GP.out))
      cases gc : cln p with
      | false =>
        have GC := hidI gc
        clear gc
        go_enter Tryz.func11, Tryz.ntmps11
        go_wp2_with fail
        refine (rgood_is _ _ v _ (by exact H.out.bel (B3.out _ _ _)) CVn.out).mono ?_
        rintro e w1 ⟨rfl, hb1⟩
        rw [GV.out]
        have K1 : Hid (BoxIs w1 w.heap.size (.int .i64 v.kind) (.int .i64 v.n) (.string ⟨v.s.toArray⟩) (.slice a1 v.keys.length c1) (.slice a2 v.l.length c2) ∧ BoxIs w1 (w.heap.size + 1) (.int .i64 p.kind) (.int .i64 p.n) (.string ⟨p.s.toArray⟩) (.slice a3 p.keys.length c3) (.slice a4 p.l.length c4) ∧ BoxIs w1 (w.heap.size + 2) (.int .i64 0) (.int .i64 0) (.string ⟨#[]⟩) (.slice none 0 0) (.slice none 0 0) ∧ Below w.heap.size w w1) := hidI ⟨box_bel hb1 (h3a w _ _ _), box_bel hb1 (h3b w _ _ _), box_bel hb1 (h3c w _ _ _), bel_trans (B3.out _ _ _) hb1⟩
        clear hb1
        obtain ⟨p0, p1, p2, p3, p4, -⟩ := K1.out.2.1.c
        go_wp2_with fail
        refine (rgood_is _ _ p _ (by exact HP.out.bel K1.out.2.2.2) CPn.out).mono ?_
        rintro e w2 ⟨rfl, hb2⟩
        rw [GP.out]
        have K2 : Hid (BoxIs w2 w.heap.size (.int .i64 v.kind) (.int .i64 v.n) (.string ⟨v.s.toArray⟩) (.slice a1 v.keys.length c1) (.slice a2 v.l.length c2) ∧ BoxIs w2 (w.heap.size + 1) (.int .i64 p.kind) (.int .i64 p.n) (.string ⟨p.s.toArray⟩) (.slice a3 p.keys.length c3) (.slice a4 p.l.length c4) ∧ BoxIs w2 (w.heap.size + 2) (.int .i64 0) (.int .i64 0) (.string ⟨#[]⟩) (.slice none 0 0) (.slice none 0 0) ∧ Below w.heap.size w w2) := hidI ⟨box_bel hb2 K1.out.1, box_bel hb2 K1.out.2.1, box_bel hb2 K1.out.2.2.1, bel_trans K1.out.2.2.2 hb2⟩
        clear hb2 p0 p1 p2 p3 p4
        obtain ⟨p0, p1, p2, p3, p4, -⟩ := K2.out.2.1.c
        go_wp2_with fail
        refine (isClean_is _ _ p _ (by exact HP.out.bel K2.out.2.2.2)).mono ?_
        rintro e w3 ⟨rfl, hb3⟩
        rw [GC.out]
        have K3 : Hid (BoxIs w3 w.heap.size (.int .i64 v.kind) (.int .i64 v.n) (.string ⟨v.s.toArray⟩) (.slice a1 v.keys.length c1) (.slice a2 v.l.length c2) ∧ BoxIs w3 (w.heap.size + 1) (.int .i64 p.kind) (.int .i64 p.n) (.string ⟨p.s.toArray⟩) (.slice a3 p.keys.length c3) (.slice a4 p.l.length c4) ∧ BoxIs w3 (w.heap.size + 2) (.int .i64 0) (.int .i64 0) (.string ⟨#[]⟩) (.slice none 0 0) (.slice none 0 0) ∧ Below w.heap.size w w3) := hidI ⟨box_bel hb3 K2.out.1, box_bel hb3 K2.out.2.1, box_bel hb3 K2.out.2.2.1, bel_trans K2.out.2.2.2 hb3⟩
        clear hb3 p0 p1 p2 p3 p4
        obtain ⟨z0, z1, z2, z3, z4, z5, z6, z7, z8, z9⟩ := K3.out.2.2.1.c
        have Z : Hid (_ ∧ _) := hidI (sto_out (ok := ok) (g := w.heap.size + 2) (C := w.heap.size + 3) (in_zero _ _) K3.out.2.2.2 (by omega) (by omega))
        have ZB : Hid _ := hidI (K3.out.2.2.1.set (.int .i64 0) (.int .i64 0) (.string ⟨#[]⟩) (.slice none 0 0) (.slice none 0 0))
        have HA : Hid (diffR v p = (zeroT, 1)) := hidI (by unfold diffR; rw [if_pos (by simp [GV.out, GP.out, CP.out, GC.out])])
        go_wp2_with fail
        obtain ⟨q0, q1, q2, q3, q4, -⟩ := ZB.out.c
        refine bodyPost_ret (v := .tuple #[.agg #[.int .i64 0, .int .i64 0, .string ⟨#[]⟩, .slice none 0 0, .slice none 0 0], .int .i64 1]) ?_ rfl ?_
        · simp only [set5] at q0 q1 q2 q3 q4
          simp [results, Tryz.results11, go_sem, q0, q1, q2, q3, q4]
        · exact ⟨_, by rw [HA.out], Z.out.1, by rw [HA.out]; exact Z.out.2⟩
      | true =>
        have GC := hidI gc
        clear gc
        go_enter Tryz.func11, Tryz.ntmps11
        go_wp2_with fail
        refine (rgood_is _ _ v _ (by exact H.out.bel (B3.out _ _ _)) CVn.out).mono ?_
        rintro e w1 ⟨rfl, hb1⟩
        rw [GV.out]
        have K1 : Hid (BoxIs w1 w.heap.size (.int .i64 v.kind) (.int .i64 v.n) (.string ⟨v.s.toArray⟩) (.slice a1 v.keys.length c1) (.slice a2 v.l.length c2) ∧ BoxIs w1 (w.heap.size + 1) (.int .i64 p.kind) (.int .i64 p.n) (.string ⟨p.s.toArray⟩) (.slice a3 p.keys.length c3) (.slice a4 p.l.length c4) ∧ BoxIs w1 (w.heap.size + 2) (.int .i64 0) (.int .i64 0) (.string ⟨#[]⟩) (.slice none 0 0) (.slice none 0 0) ∧ Below w.heap.size w w1) := hidI ⟨box_bel hb1 (h3a w _ _ _), box_bel hb1 (h3b w _ _ _), box_bel hb1 (h3c w _ _ _), bel_trans (B3.out _ _ _) hb1⟩
        clear hb1
        obtain ⟨p0, p1, p2, p3, p4, -⟩ := K1.out.2.1.c
        go_wp2_with fail
        refine (rgood_is _ _ p _ (by exact HP.out.bel K1.out.2.2.2) CPn.out).mono ?_
        rintro e w2 ⟨rfl, hb2⟩
        rw [GP.out]
        have K2 : Hid (BoxIs w2 w.heap.size (.int .i64 v.kind) (.int .i64 v.n) (.string ⟨v.s.toArray⟩) (.slice a1 v.keys.length c1) (.slice a2 v.l.length c2) ∧ BoxIs w2 (w.heap.size + 1) (.int .i64 p.kind) (.int .i64 p.n) (.string ⟨p.s.toArray⟩) (.slice a3 p.keys.length c3) (.slice a4 p.l.length c4) ∧ BoxIs w2 (w.heap.size + 2) (.int .i64 0) (.int .i64 0) (.string ⟨#[]⟩) (.slice none 0 0) (.slice none 0 0) ∧ Below w.heap.size w w2) := hidI ⟨box_bel hb2 K1.out.1, box_bel hb2 K1.out.2.1, box_bel hb2 K1.out.2.2.1, bel_trans K1.out.2.2.2 hb2⟩
        clear hb2 p0 p1 p2 p3 p4
        obtain ⟨p0, p1, p2, p3, p4, -⟩ := K2.out.2.1.c
        go_wp2_with fail
        refine (isClean_is _ _ p _ (by exact HP.out.bel K2.out.2.2.2)).mono ?_
        rintro e w3 ⟨rfl, hb3⟩
        rw [GC.out]
        have K3 : Hid (BoxIs w3 w.heap.size (.int .i64 v.kind) (.int .i64 v.n) (.string ⟨v.s.toArray⟩) (.slice a1 v.keys.length c1) (.slice a2 v.l.length c2) ∧ BoxIs w3 (w.heap.size + 1) (.int .i64 p.kind) (.int .i64 p.n) (.string ⟨p.s.toArray⟩) (.slice a3 p.keys.length c3) (.slice a4 p.l.length c4) ∧ BoxIs w3 (w.heap.size + 2) (.int .i64 0) (.int .i64 0) (.string ⟨#[]⟩) (.slice none 0 0) (.slice none 0 0) ∧ Below w.heap.size w w3) := hidI ⟨box_bel hb3 K2.out.1, box_bel hb3 K2.out.2.1, box_bel hb3 K2.out.2.2.1, bel_trans K2.out.2.2.2 hb3⟩
        clear hb3 p0 p1 p2 p3 p4
        obtain ⟨p0, p1, p2, p3, p4, -⟩ := K3.out.2.1.c
        obtain ⟨y0, y1, y2, y3, y4, -⟩ := K3.out.1.c
        go_wp2_with fail
        refine (rother_is 12 _ (lowN ok w.heap.size (w.heap.size + 3)) v p _ _ (by exact (H.out.bel K3.out.2.2.2).weak lowN_low) (by exact (HP.out.bel K3.out.2.2.2).weak lowN_low) NV.out NP.out DP.out).mono ?_
        rintro e w4 ⟨r, rfl, hb4, hr⟩
        obtain ⟨m, hm⟩ : ∃ m, diffF 12 v p = m := ⟨_, rfl⟩
        rw [hm] at hr
        obtain ⟨a5, a6, c5, c6, rfl⟩ := hr.form
        have hbb := bel_trans hb4 (bel_alloc w4 (.cells #[.int .i64 m.kind, .int .i64 m.n, .string ⟨m.s.toArray⟩, .slice a5 m.keys.length c5, .slice a6 m.l.length c6] 25))
        have K4 : Hid (BoxIs (w4.alloc (.cells #[.int .i64 m.kind, .int .i64 m.n, .string ⟨m.s.toArray⟩, .slice a5 m.keys.length c5, .slice a6 m.l.length c6] 25)) w.heap.size (.int .i64 v.kind) (.int .i64 v.n) (.string ⟨v.s.toArray⟩) (.slice a1 v.keys.length c1) (.slice a2 v.l.length c2) ∧ BoxIs (w4.alloc (.cells #[.int .i64 m.kind, .int .i64 m.n, .string ⟨m.s.toArray⟩, .slice a5 m.keys.length c5, .slice a6 m.l.length c6] 25)) (w.heap.size + 1) (.int .i64 p.kind) (.int .i64 p.n) (.string ⟨p.s.toArray⟩) (.slice a3 p.keys.length c3) (.slice a4 p.l.length c4) ∧ BoxIs (w4.alloc (.cells #[.int .i64 m.kind, .int .i64 m.n, .string ⟨m.s.toArray⟩, .slice a5 m.keys.length c5, .slice a6 m.l.length c6] 25)) (w.heap.size + 2) (.int .i64 0) (.int .i64 0) (.string ⟨#[]⟩) (.slice none 0 0) (.slice none 0 0) ∧ Below w.heap.size w (w4.alloc (.cells #[.int .i64 m.kind, .int .i64 m.n, .string ⟨m.s.toArray⟩, .slice a5 m.keys.length c5, .slice a6 m.l.length c6] 25))) := hidI ⟨box_bel hbb K3.out.1, box_bel hbb K3.out.2.1, box_bel hbb K3.out.2.2.1, bel_trans K3.out.2.2.2 hbb⟩
        have M4 : Hid (In (w4.alloc (.cells #[.int .i64 m.kind, .int .i64 m.n, .string ⟨m.s.toArray⟩, .slice a5 m.keys.length c5, .slice a6 m.l.length c6] 25)) (lowN ok w.heap.size (w.heap.size + 3)) m (.agg #[.int .i64 m.kind, .int .i64 m.n, .string ⟨m.s.toArray⟩, .slice a5 m.keys.length c5, .slice a6 m.l.length c6]) ∧ BoxIs (w4.alloc (.cells #[.int .i64 m.kind, .int .i64 m.n, .string ⟨m.s.toArray⟩, .slice a5 m.keys.length c5, .slice a6 m.l.length c6] 25)) w4.heap.size (.int .i64 m.kind) (.int .i64 m.n) (.string ⟨m.s.toArray⟩) (.slice a5 m.keys.length c5) (.slice a6 m.l.length c6)) := hidI ⟨(hr.weak (lowN_up K3.out.2.2.1.lt)).bel (bel_alloc _ _), heap_alloc_new w4 _⟩
        have HM := hidI hm
        have CM : Hid (cnt m ≤ 1000000000000000) := hidI (by rw [← HM.out]; exact Nat.le_trans (diff_cnt 12 v p) CC.out)
        clear hm hr hb4 hbb p0 p1 p2 p3 p4 y0 y1 y2 y3 y4
        go_wp2_with fail
        refine (rgood_is _ _ m _ (by exact M4.out.1) CM.out).mono ?_
        rintro e w5 ⟨rfl, hb5⟩
        have K5 : Hid (BoxIs w5 w.heap.size (.int .i64 v.kind) (.int .i64 v.n) (.string ⟨v.s.toArray⟩) (.slice a1 v.keys.length c1) (.slice a2 v.l.length c2) ∧ BoxIs w5 (w.heap.size + 1) (.int .i64 p.kind) (.int .i64 p.n) (.string ⟨p.s.toArray⟩) (.slice a3 p.keys.length c3) (.slice a4 p.l.length c4) ∧ BoxIs w5 (w.heap.size + 2) (.int .i64 0) (.int .i64 0) (.string ⟨#[]⟩) (.slice none 0 0) (.slice none 0 0) ∧ Below w.heap.size w w5) := hidI ⟨box_bel hb5 K4.out.1, box_bel hb5 K4.out.2.1, box_bel hb5 K4.out.2.2.1, bel_trans K4.out.2.2.2 hb5⟩
        have M5 : Hid (In w5 (lowN ok w.heap.size (w.heap.size + 3)) m (.agg #[.int .i64 m.kind, .int .i64 m.n, .string ⟨m.s.toArray⟩, .slice a5 m.keys.length c5, .slice a6 m.l.length c6]) ∧ BoxIs w5 w4.heap.size (.int .i64 m.kind) (.int .i64 m.n) (.string ⟨m.s.toArray⟩) (.slice a5 m.keys.length c5) (.slice a6 m.l.length c6)) := hidI ⟨M4.out.1.bel hb5, box_bel hb5 M4.out.2⟩
        clear hb5
        cases gm : goodV m with
        | false =>
          have GM := hidI gm
          clear gm
          obtain ⟨z0, z1, z2, z3, z4, z5, z6, z7, z8, z9⟩ := K5.out.2.2.1.c
          have Z : Hid (_ ∧ _) := hidI (sto_out (ok := ok) (g := w.heap.size + 2) (C := w.heap.size + 3) (in_zero _ _) K5.out.2.2.2 (by omega) (by omega))
          have ZB : Hid _ := hidI (K5.out.2.2.1.set (.int .i64 0) (.int .i64 0) (.string ⟨#[]⟩) (.slice none 0 0) (.slice none 0 0))
          have HA : Hid (diffR v p = (zeroT, 2)) := hidI (by unfold diffR; rw [if_neg (by simp [GV.out, GP.out, CP.out, GC.out]), HM.out, if_neg (by simp [GM.out])])
          go_wp2_with fail
          obtain ⟨q0, q1, q2, q3, q4, -⟩ := ZB.out.c
          refine bodyPost_ret (v := .tuple #[.agg #[.int .i64 0, .int .i64 0, .string ⟨#[]⟩, .slice none 0 0, .slice none 0 0], .int .i64 2]) ?_ rfl ?_
          · simp only [set5] at q0 q1 q2 q3 q4
            simp [results, Tryz.results11, go_sem, q0, q1, q2, q3, q4]
          · exact ⟨_, by rw [HA.out], Z.out.1, by rw [HA.out]; exact Z.out.2⟩
        | true =>
          have GM := hidI gm
          clear gm
          obtain ⟨y0, y1, y2, y3, y4, -⟩ := M5.out.2.c
          obtain ⟨z0, z1, z2, z3, z4, z5, z6, z7, z8, z9⟩ := K5.out.2.2.1.c
          have Z : Hid (_ ∧ _) := hidI (sto_out (ok := ok) (g := w.heap.size + 2) (C := w.heap.size + 3) M5.out.1 K5.out.2.2.2 (by omega) (by omega))
          have ZB : Hid _ := hidI (K5.out.2.2.1.set (.int .i64 m.kind) (.int .i64 m.n) (.string ⟨m.s.toArray⟩) (.slice a5 m.keys.length c5) (.slice a6 m.l.length c6))
          have HA : Hid (diffR v p = (m, 0)) := hidI (by unfold diffR; rw [if_neg (by simp [GV.out, GP.out, CP.out, GC.out]), HM.out, if_pos GM.out])
          go_wp2_with fail
          obtain ⟨q0, q1, q2, q3, q4, -⟩ := ZB.out.c
          refine bodyPost_ret (v := .tuple #[.agg #[.int .i64 m.kind, .int .i64 m.n, .string ⟨m.s.toArray⟩, .slice a5 m.keys.length c5, .slice a6 m.l.length c6], .int .i64 0]) ?_ rfl ?_
          · simp only [set5] at q0 q1 q2 q3 q4
            simp [results, Tryz.results11, go_sem, q0, q1, q2, q3, q4]
          · exact ⟨_, by rw [HA.out], Z.out.1, by rw [HA.out]; exact Z.out.2⟩
end Go.Proofs.YtfbddgpekbhpfacGreatDoor

set_option linter.unusedSimpArgs false
set_option linter.unusedVariables false
namespace Go.Proofs.YtfbddgpekbhpfacGreatDoor
open Go.RowKit

theorem rcopy_is (w : World) (ok : Nat → Prop) (t : V) (v : Value) (h : In w ok t v) (hN : siz t ≤ 1000000000000) :
    Calls Tryz.prog 5 #[v] w fun e w' => ∃ r, e = .returned r ∧ Below w.heap.size w w' ∧ In w' (fun k => w.heap.size ≤ k) t r := by
  obtain ⟨d, h⟩ := h
  refine (copyValue_all d w ok t v h hN).mono ?_
  rintro e w' ⟨r, rfl, hb, hr⟩
  exact ⟨r, rfl, hb, hr.is⟩
end Go.Proofs.YtfbddgpekbhpfacGreatDoor
