/- Names, joined and split: PointBack. -/
import Derived.Test.YtcpkmpaemnlkmabDoorXo
set_option linter.unusedSimpArgs false
set_option linter.unusedVariables false
namespace Go.Proofs.YtcpkmpaemnlkmabDoor
open Go.RowKit

def sumM (l : List (List UInt8)) : Nat := (l.map fun s => min s.length 2000).sum
theorem sumM_take {l : List (List UInt8)} {k : Nat} (h : k < l.length) : sumM (l.take (k + 1)) = sumM (l.take k) + min l[k].length 2000 := by
  unfold sumM
  rw [List.take_add_one, List.getElem?_eq_getElem h, List.map_append, List.sum_append]
  rfl
theorem sumM_le (l : List (List UInt8)) : sumM l ≤ 2000 * l.length := by
  unfold sumM
  induction l with
  | nil => simp
  | cons s l ih => simp only [List.map_cons, List.sum_cons, List.length_cons]; omega
theorem sumM_mem {l : List (List UInt8)} {s : List UInt8} (h : s ∈ l) : min s.length 2000 ≤ sumM l := by
  unfold sumM
  induction l with
  | nil => cases h
  | cons a l ih =>
    simp only [List.map_cons, List.sum_cons]
    rcases List.mem_cons.1 h with rfl | h
    · omega
    · have := ih h; omega
theorem join_short {l : List (List UInt8)} (h : sumM l ≤ 900) : (joinP l).length ≤ l.length + 2 * sumM l := by
  induction l with
  | nil => simp [joinP, sumM]
  | cons s l ih =>
    have e : sumM (s :: l) = min s.length 2000 + sumM l := by simp [sumM]
    rw [e] at h ⊢
    have := ih (by omega)
    have hm := esc_len s
    rw [← marked_eq] at hm
    simp only [joinP, List.flatMap_cons, List.length_append, List.length_cons] at this ⊢
    omega
theorem split_err {p : List UInt8} {b : List (List UInt8)} {e : Int} (h : splitP p = (b, e)) (he : e ≠ 0) : b = [] := by
  unfold splitP at h
  split at h
  · simp only [Prod.mk.injEq] at h; exact absurd h.2.symm he
  · split at h
    · simp only [Prod.mk.injEq] at h; exact h.1.symm
    · simp only [Prod.mk.injEq] at h; exact absurd h.2.symm he
theorem split_short {p : List UInt8} {b : List (List UInt8)} (h : splitP p = (b, 0)) : p.length ≤ 2000 := by
  unfold splitP at h
  split at h
  · simp
  · split at h
    · simp at h
    · rename_i hc; simp only [not_or] at hc; omega
theorem join_mem {l : List (List UInt8)} {s : List UInt8} (h : s ∈ l) : s.length ≤ (joinP l).length := by
  induction l with
  | nil => cases h
  | cons a l ih =>
    simp only [joinP, List.flatMap_cons, List.length_append, List.length_cons] at ih ⊢
    rcases List.mem_cons.1 h with rfl | h
    · have : s.length ≤ (markedL s).length := by
        rw [marked_eq]
        clear h ih
        induction s with
        | nil => simp
        | cons c s ih =>
          rw [List.flatMap_cons, List.length_append, List.length_cons]
          have : 1 ≤ (escP c).length := by unfold escP; split; simp; split <;> simp
          omega
      omega
    · have := ih h; omega

set_option maxRecDepth 100000 in
set_option maxHeartbeats 40000000 in
theorem pointBack_walk (w : World) (l : List (List UInt8)) (v : Value) (h : StrsAre w (fun _ => True) l v) (hl : l.length ≤ 10000000000000) (p : List UInt8) (hp : p.length ≤ 140737488351232) (hM : GlobM w) :
    Calls Tryd.prog 6 #[v, str p] w fun e w' => e = .returned (.bool true) ∧ Below w.heap.size w w' := by
  have HL := hidI h
  have HMM := hidI hM
  obtain ⟨a1, c1, rfl⟩ := h.form
  clear h hM
  unfold str
  go_enter Tryd.func6, Tryd.ntmps6
  go_wp2_with fail
  go_loop [5, 15] (fun n i => ∃ k : Nat, k ≤ l.length ∧ i = .int .i64 k ∧ n = .int .i64 (sumM (l.take k) : Nat)) (fun _ i => l.length - (intOf i).toNat)
  case atStart => exact ⟨0, Nat.zero_le _, rfl, rfl⟩
  case round =>
    obtain ⟨k, hk, rfl, rfl⟩ := hrel
    have hs1 := sumM_le (l.take k)
    rw [List.length_take, Nat.min_eq_left hk] at hs1
    by_cases hlt : k < l.length
    · obtain ⟨nb, no, rfl, hc1, hc2, hc⟩ := strs_cells HL.out hlt
      unfold maxLen at hc2
      have ST := hidI (sumM_take hlt)
      have hlk : l[k].length ≤ 9223372036854775807 := HL.out.mem _ (List.getElem_mem _)
      by_cases hm : l[k].length < 2000
      · have m1 : (l[k].length : Int) < 2000 := by omega
        have m2 : (l[k].length : Int) ≤ 2000 := by omega
        go_wp2_with fail
        go_round
        case rel => exact ⟨k + 1, hlt, by go_num, by rw [ST.out, Nat.min_eq_left (by omega)]; go_num⟩
        case measure => simp [intOf]; omega
      · have m1 : ¬ ((l[k].length : Int) < 2000) := by omega
        have m2 : (2000 : Int) ≤ (l[k].length : Int) := by omega
        go_wp2_with fail
        go_round
        case rel => exact ⟨k + 1, hlt, by go_num, by rw [ST.out, Nat.min_eq_right (by omega)]; go_num⟩
        case measure => simp [intOf]; omega
    · have hke : k = l.length := by omega
      subst hke
      rw [List.take_length] at hs1 ⊢
      clear hlt hk
      by_cases hbig : 900 < sumM l ∨ 60 < l.length
      · have fin : Hid (∀ W : World, W = w → Calls Tryd.prog 29 #[] W fun e w' => e = .returned (.bool true) ∧ Below w.heap.size w w') := by
          rintro W rfl
          exact points_at _ HMM.out
        by_cases h9 : 900 < sumM l
        · have e1 : (900 : Int) < (sumM l : Int) := by omega
          clear hbig h9
          go_wp2_with fail
          refine (fin.out _ rfl).mono ?_
          rintro e w1 ⟨rfl, hb1⟩
          have HB1 := hidI hb1
          clear hb1
          go_wp2_with fail
          go_ret
          exact ⟨rfl, HB1.out⟩
        · have e1 : ¬ ((900 : Int) < (sumM l : Int)) := by omega
          have e2 : (60 : Int) < (l.length : Int) := by omega
          clear hbig h9
          go_wp2_with fail
          refine (fin.out _ rfl).mono ?_
          rintro e w1 ⟨rfl, hb1⟩
          have HB1 := hidI hb1
          clear hb1
          go_wp2_with fail
          go_ret
          exact ⟨rfl, HB1.out⟩
      · have e1 : ¬ ((900 : Int) < (sumM l : Int)) := by omega
        have e2 : ¬ ((60 : Int) < (l.length : Int)) := by omega
        have h9 : sumM l ≤ 900 := by omega
        have h60 : l.length ≤ 60 := by omega
        have hj := join_short h9
        have hsj : Hid (splitP (joinP l) = (l, 0)) := hidI (split_join l (by omega))
        have hmem : Hid (∀ x ∈ l, x.length ≤ 1000000) := hidI (fun x hx => by have := sumM_mem hx; omega)
        clear hbig
        go_wp2_with fail
        refine (join_at _ _ l _ (by exact HL.out) hmem.out (by omega) (by exact HMM.out)).mono ?_
        rintro e w1 ⟨rfl, hb1⟩
        have B1 := hidI hb1
        clear hb1
        unfold str
        go_wp2_with fail
        refine (split_all _ (joinP l) (by omega) (by exact HMM.out.bel B1.out)).mono ?_
        rintro e w2 ⟨ns, ee, na, nc, rfl, hsp, hns, hb2⟩
        rw [hsj.out] at hsp
        simp only [Prod.mk.injEq] at hsp
        obtain ⟨rfl, rfl⟩ := hsp
        have K2 : Hid (Below w.heap.size w w2 ∧ StrsAre w2 (fun _ => True) l (.slice na l.length nc)) := ⟨bel_trans B1.out hb2, hns.imp fun a x _ hc => ⟨trivial, hc⟩⟩
        clear hb2 hns B1
        have q9 : ((l.length : Int) != (l.length : Int)) = false := by simp
        have q8 : ((l.length : Int) == (l.length : Int)) = true := by simp
        go_wp2_with fail
        refine (points_at _ (by exact HMM.out.bel K2.out.1)).mono ?_
        rintro e w3 ⟨rfl, hb3⟩
        have K3 : Hid (Below w.heap.size w w3 ∧ StrsAre w3 (fun _ => True) l (.slice na l.length nc) ∧ StrsAre w3 (fun _ => True) l (.slice a1 l.length c1)) := ⟨bel_trans K2.out.1 hb3, K2.out.2.bel hb3, HL.out.bel (bel_trans K2.out.1 hb3)⟩
        clear hb3 K2 q9 q8
        go_wp2_with fail
        go_loopg [54] l.length (fun gk i wr => ∃ k : Nat, k ≤ l.length ∧ gk = l.length - k ∧ i = .int .i64 k ∧ Below w.heap.size w wr ∧ StrsAre wr (fun _ => True) l (.slice na l.length nc) ∧ StrsAre wr (fun _ => True) l (.slice a1 l.length c1))
        case atStart => exact ⟨0, Nat.zero_le _, rfl, rfl, K3.out.1, K3.out.2.1, K3.out.2.2⟩
        case round =>
          obtain ⟨k, hk, hgk, rfl, i1, i2, i3⟩ := hrel
          have GK := hidI hgk
          have I : Hid (Below w.heap.size w wr ∧ StrsAre wr (fun _ => True) l (.slice na l.length nc) ∧ StrsAre wr (fun _ => True) l (.slice a1 l.length c1)) := ⟨i1, i2, i3⟩
          clear hgk i1 i2 i3
          by_cases hlt : k < l.length
          · obtain ⟨nb, no, rfl, hc1, hc2, hc⟩ := strs_cells I.out.2.1 hlt
            obtain ⟨ob, oo, rfl, hd1, hd2, hd⟩ := strs_cells I.out.2.2 hlt
            unfold maxLen at hc2 hd2
            go_upto_region 15 with fail
            go_quiet (fail)
            all_goals
              go_wp2_with fail
              go_roundg (l.length - (k + 1))
              case measure => rw [GK.out]; omega
              case rel => exact ⟨k + 1, hlt, rfl, by go_num, gb_none (gb_drewN (gb_below I.out.1) _), I.out.2.1.imp fun a x h1 h2 => ⟨h1, h2⟩, I.out.2.2.imp fun a x h1 h2 => ⟨h1, h2⟩⟩
          · have hke : k = l.length := by omega
            subst hke
            go_wp2_with fail
            refine (split_all _ p hp (by exact HMM.out.bel I.out.1)).mono ?_
            rintro e w5 ⟨ns, ee, ma, mc, rfl, hsp, hns, hb5⟩
            have nlen := hns.1
            unfold maxLen at nlen
            have K5 : Hid (Below w.heap.size w w5 ∧ StrsAre w5 _ ns (.slice ma ns.length mc)) := ⟨bel_trans I.out.1 hb5, hns⟩
            clear hb5 hns
            by_cases he : ee = 0
            · subst he
              have hjs := join_split p ns hsp
              have hps := split_short hsp
              have hmem2 : Hid (∀ x ∈ ns, x.length ≤ 1000000) := hidI (fun x hx => by have := join_mem hx; rw [hjs] at this; omega)
              have HJ := hidI hjs
              clear hsp hjs
              go_wp2_with fail
              refine (join_at _ _ ns _ (by exact K5.out.2) hmem2.out (by rw [HJ.out]; omega) (by exact HMM.out.bel K5.out.1)).mono ?_
              rintro e w6 ⟨rfl, hb6⟩
              rw [HJ.out]
              unfold str
              have B6 := hidI (bel_trans K5.out.1 hb6)
              clear hb6
              go_wp2_with fail
              go_ret
              exact ⟨rfl, B6.out⟩
            · have e3 : (ee != 0) = true := by rw [bne_iff_ne]; exact he
              have e4 : (ee == 0) = false := by rw [beq_eq_false_iff_ne]; exact he
              have hn0 := split_err hsp he
              subst hn0
              clear hsp he
              go_wp2_with fail
              go_ret
              exact ⟨rfl, K5.out.1⟩
end Go.Proofs.YtcpkmpaemnlkmabDoor
