/- How many values there are in what is merged, and in what is other. -/
import Derived.Test.YtfbddgpekbhpfacGreatDoorFl
import Derived.Test.YtfbddgpekbhpfacGreatDoorSk
set_option linter.unusedSimpArgs false
set_option linter.unusedVariables false
namespace Go.Proofs.YtfbddgpekbhpfacGreatDoor
open Go.RowKit
/- How many values there are in what is merged, and in what is other. -/
theorem cnts_append (xs ys : List V) : cnts (xs ++ ys) = cnts xs + cnts ys := by simp [cnts]
theorem cnts_take_le (xs : List V) (k : Nat) : cnts (xs.take k) + cnts (xs.drop k) = cnts xs := by rw [← cnts_append, List.take_append_drop]
theorem cnts_drop_le (xs : List V) (k : Nat) : cnts (xs.drop (k + 1)) ≤ cnts (xs.drop k) := by
  by_cases h : k < xs.length
  · rw [cnts_drop h]; omega
  · rw [List.drop_eq_nil_of_le (by omega), List.drop_eq_nil_of_le (by omega)]; omega
theorem cnt_with (t : V) (k : List UInt8) (x : V) : cnt (withV t k x) ≤ cnt t + cnt x := by
  unfold withV
  split
  · split
    · rename_i i _
      rw [cnt_eq, cnt_eq t]
      simp only [cnts_append, cnts_cons]
      have h1 := cnts_take_le t.l i
      have h2 := cnts_drop_le t.l i
      omega
    · rw [cnt_eq, cnt_eq t]
      simp only [cnts_append, cnts_cons]
      have h1 := cnts_take_le t.l (insV k t.keys)
      omega
  · omega
theorem cnt_pos (t : V) : 1 ≤ cnt t := by rw [cnt_eq]; omega
theorem cnt_zero : cnt zeroT = 1 := by rw [cnt_eq]; rfl
theorem cnt_objT : cnt objT = 1 := by rw [cnt_eq]; rfl
theorem cnt_member (v : V) (k : List UInt8) : cnt ((memV v k).getD zeroT) ≤ cnt v := by
  cases hm : memV v k with
  | none => simp only [Option.getD_none, cnt_zero]; exact cnt_pos v
  | some x => rw [Option.getD_some, cnt_eq v]; have := cnts_mem (mem_in hm); omega
theorem cnts_zip : ∀ (ks : List (List UInt8)) (l : List V), ((ks.zip l).map fun q => cnt q.2).sum ≤ cnts l
  | [], l => by simp
  | k :: ks, [] => by simp
  | k :: ks, x :: l => by
    have := cnts_zip ks l
    simp only [List.zip_cons_cons, List.map_cons, List.sum_cons, cnts_cons]
    omega
theorem fold_cnt {β : Type} {step : V → β → V} {c : β → Nat} : ∀ (ps : List β) (v : V), (∀ v, ∀ q ∈ ps, cnt (step v q) ≤ cnt v + c q) → cnt (ps.foldl step v) ≤ cnt v + (ps.map c).sum
  | [], v, _ => by simp
  | q :: ps, v, hs => by
    have h1 := fold_cnt ps (step v q) fun v r hr => hs v r (by simp [hr])
    have h2 := hs v q (by simp)
    simp only [List.foldl_cons, List.map_cons, List.sum_cons]
    omega
theorem sum_le {β : Type} {c d : β → Nat} : ∀ (ps : List β), (∀ q ∈ ps, c q ≤ d q) → (ps.map c).sum ≤ (ps.map d).sum
  | [], _ => by simp
  | q :: ps, h => by
    have h1 := sum_le ps fun r hr => h r (by simp [hr])
    have h2 := h q (by simp)
    simp only [List.map_cons, List.sum_cons]
    omega
theorem sum_mul {β : Type} {c : β → Nat} (m : Nat) : ∀ (ps : List β), (ps.map fun q => m * c q).sum = m * (ps.map c).sum
  | [] => by simp
  | q :: ps => by simp only [List.map_cons, List.sum_cons, sum_mul m ps, Nat.mul_add]
theorem kept_cnt (v p : V) : cnt (keptV v p) ≤ cnt v := by
  unfold keptV
  split
  · have h1 := fold_cnt (step := stepK p) (c := fun q => cnt q.2) (v.keys.zip v.l) objT (fun v q _ => by
      unfold stepK
      split
      · omega
      · exact cnt_with v q.1 q.2)
    have h2 := cnts_zip v.keys v.l
    rw [cnt_objT] at h1
    rw [cnt_eq v]; omega
  · rw [cnt_objT]; exact cnt_pos v
theorem prod_step {D A B L S : Nat} (hA : 1 ≤ A) (hB : B = 1 + L) {t0 : Nat} (h0 : t0 ≤ A) (hS : S ≤ L) {t : Nat} (h : t ≤ t0 + (D + 1) * A * S) : t ≤ (D + 1 + 1) * (A * B) := by
  have h4 : (D + 1) * A * S ≤ (D + 1) * A * L := Nat.mul_le_mul_left _ hS
  have h6 : (D + 1 + 1) * (A * B) = (D + 1) * A * L + (D + 1) * A + A * B := by
    rw [Nat.add_mul (D + 1) 1, hB, Nat.mul_add, Nat.mul_one, Nat.mul_add, Nat.one_mul, Nat.mul_assoc]; omega
  have h7 : A ≤ A * B := Nat.le_mul_of_pos_right _ (by omega)
  omega
theorem nice_oldC {v : V} (h : Nice v) (k : List UInt8) : Nice ((memV v k).getD zeroT) := by
  cases hm : memV v k with
  | none => exact nice_zero
  | some x => exact nice_mem h (mem_in hm)
theorem merge_cnt : ∀ (D : Nat) (v p : V), Nice v → Nice p → cnt (mergeF D v p) ≤ (D + 1) * (cnt v * cnt p)
  | 0, v, p, _, _ => by
    have hA := cnt_pos v
    simp only [mergeF]
    have : cnt p ≤ cnt v * cnt p := Nat.le_mul_of_pos_left _ hA
    omega
  | D + 1, v, p, nv, np => by
    have hA := cnt_pos v
    have hB := cnt_pos p
    by_cases hk : p.kind = 5
    · rw [← rmerge_eq (nice_ob np hk) (nice_ob nv)]
      have h1 := fold_cnt (step := stepN (mergeF D) v) (c := fun q => (D + 1) * cnt v * cnt q.2) (p.keys.zip p.l) (keptV v p) (fun o q hq => by
        unfold stepN
        split
        · omega
        · refine Nat.le_trans (cnt_with _ _ _) ?_
          have h2 := merge_cnt D ((memV v q.1).getD zeroT) q.2 (nice_oldC nv q.1) (nice_mem np (List.of_mem_zip (a := q.1) (b := q.2) hq).2)
          have h3 : (D + 1) * (cnt ((memV v q.1).getD zeroT) * cnt q.2) ≤ (D + 1) * cnt v * cnt q.2 := by
            rw [Nat.mul_assoc]
            exact Nat.mul_le_mul_left _ (Nat.mul_le_mul_right _ (cnt_member v q.1))
          omega)
      rw [sum_mul] at h1
      exact prod_step hA (cnt_eq p) (kept_cnt v p) (cnts_zip p.keys p.l) h1
    · have e : mergeF (D + 1) v p = p := by rw [mergeF, if_neg hk]
      rw [e]
      have h1 : cnt p ≤ cnt v * cnt p := Nat.le_mul_of_pos_left _ hA
      have h2 : cnt v * cnt p ≤ (D + 1 + 1) * (cnt v * cnt p) := Nat.le_mul_of_pos_left _ (by omega)
      omega
theorem gone_cnt (a b : V) : cnt (goneV a b) ≤ cnt a := by
  unfold goneV
  have h1 := fold_cnt (step := stepG b) (c := fun q => cnt q.2) (a.keys.zip a.l) objT (fun v q _ => by
    unfold stepG
    split
    · omega
    · refine Nat.le_trans (cnt_with _ _ _) ?_
      rw [cnt_zero]; have := cnt_pos q.2; omega)
  have h2 := cnts_zip a.keys a.l
  rw [cnt_objT] at h1
  rw [cnt_eq a]; omega
theorem diff_cnt : ∀ (D : Nat) (a b : V), cnt (diffF D a b) ≤ (D + 1) * (cnt a * cnt b)
  | 0, a, b => by
    have hA := cnt_pos a
    simp only [diffF]
    have : cnt b ≤ cnt a * cnt b := Nat.le_mul_of_pos_left _ hA
    omega
  | D + 1, a, b => by
    have hA := cnt_pos a
    have hB := cnt_pos b
    by_cases hk : a.kind = 5 ∧ b.kind = 5
    · have e : diffF (D + 1) a b = (b.keys.zip b.l).foldl (stepD (diffF D) a) (goneV a b) := by rw [diffF, if_pos hk]
      rw [e]
      have h1 := fold_cnt (step := stepD (diffF D) a) (c := fun q => (D + 1) * cnt a * cnt q.2) (b.keys.zip b.l) (goneV a b) (fun o q hq => by
        have hq2 : cnt q.2 ≤ (D + 1) * cnt a * cnt q.2 := Nat.le_mul_of_pos_left _ (Nat.mul_pos (by omega) hA)
        unfold stepD
        cases hm : memV a q.1 with
        | none => exact Nat.le_trans (cnt_with _ _ _) (by omega)
        | some y =>
          simp only
          split
          · omega
          · refine Nat.le_trans (cnt_with _ _ _) ?_
            have h2 := diff_cnt D y q.2
            have h4 : cnt y ≤ cnt a := by rw [cnt_eq a]; have := cnts_mem (mem_in hm); omega
            have h3 : (D + 1) * (cnt y * cnt q.2) ≤ (D + 1) * cnt a * cnt q.2 := by
              rw [Nat.mul_assoc]
              exact Nat.mul_le_mul_left _ (Nat.mul_le_mul_right _ h4)
            omega)
      rw [sum_mul] at h1
      exact prod_step hA (cnt_eq b) (gone_cnt a b) (cnts_zip b.keys b.l) h1
    · have e : diffF (D + 1) a b = b := by rw [diffF, if_neg hk]
      rw [e]
      have h1 : cnt b ≤ cnt a * cnt b := Nat.le_mul_of_pos_left _ hA
      have h2 : cnt a * cnt b ≤ (D + 1 + 1) * (cnt a * cnt b) := Nat.le_mul_of_pos_left _ (by omega)
      omega
end Go.Proofs.YtfbddgpekbhpfacGreatDoor
