/- What slices.Grow and slices.Concat do, at lists of texts and at lists of values. -/
import Derived.Test.YtkboplcffailoaaDoorCz
set_option linter.unusedSimpArgs false
set_option linter.unusedVariables false
namespace Go.Proofs.YtkboplcffailoaaDoor
open Go.RowKit

set_option maxRecDepth 100000 in
set_option maxHeartbeats 1000000 in
theorem growS (w : World) (n : Nat) (h : n ≤ 4000000) :
    Calls Tryd.prog 78 #[.slice none 0 0, .int .i64 n] w fun e w' => ∃ v, e = .returned v ∧ w'.ownsRow w.heap.size 9 1 v 0 [] ∧ Below w.heap.size w w' := by
  obtain ⟨i0, hi, hz0, hz1, hz2⟩ := info_parts info9
  rcases Nat.eq_zero_or_pos n with rfl | h0
  · go_enter Tryd.func78, Tryd.ntmps78
    go_wp2
    go_ret
    exact ⟨_, rfl, World.ownsRow_nil _ _ _ _, Below.refl _ _⟩
  · have hr := Lib.run_append_nil_zeros (P := Tryd.prog) w 22 3 22 9 i0 _ .i64 .i64 Tryd.underlying22 Tryd.underlying3 hi hz0 n h0 (by rw [hz1]; omega) (by omega) (by rw [hz2]; omega)
    have hR := hidI hr
    clear hr
    have e1 : ¬ ((n : Int) < 0) := by omega
    have e2 : (0 : Int) < (n : Int) := by omega
    go_enter Tryd.func78, Tryd.ntmps78
    go_wp2_with (at_builtin; go_must (refine Lib.wpList_append_run _ rfl _ _ _ _ rfl (.slice none 0 0) (.int .i64 n) rfl rfl _ _ hR.out ?_); refine Hid.out ?_)
    refine hidI ?_
    have hge := grownCap_ge w n 0 9
    have hle := grownCap_le_maxLen w n 0 9 (by unfold maxLen; omega)
    generalize grownCap w n 0 9 = cap at hge hle ⊢
    clear hR
    have O : Hid (∀ cur : Array Value, cur.size = cap * 1 → (w.alloc (.cells cur 9)).drew.ownsRow w.heap.size 9 1 (.slice (some ⟨w.heap.size, 0, none⟩) 0 cap) 0 []) := by
      intro cur hcur
      exact (World.ownsRow_made w cur cap (Nat.le_refl _) hle hcur)
    have hcap : (0 : Int) ≤ (cap : Int) := by omega
    unfold maxLen at hle
    go_wp2
    go_ret
    refine ⟨_, rfl, O.out _ ?_, ((Below.refl _ w).alloc (Nat.le_refl _) _).drew⟩
    rw [Array.size_append, size_zeroCells, size_zeroCells]
    simp only [List.size_toArray, List.length_cons, List.length_nil]
    omega

/- What the loops of Concat know of its argument. -/
def ArgsS (w : World) (b off : Nat) (ps : List Part) : Prop :=
  ∀ i p, ps[i]? = some p → w.cell? ⟨b, off + i, none⟩ = some p.v ∧ SlIs w 1 p.v p.n p.cells

set_option maxRecDepth 100000 in
set_option maxHeartbeats 1000000 in
theorem concatS (w : World) (b off c : Nat) (ps : List Part) (h : ArgsS w b off ps) (hn : sumN ps ≤ 1000000) (hl : ps.length ≤ 10) (hlc : ps.length ≤ c) :
    Calls Tryd.prog 68 #[.slice (some ⟨b, off, none⟩) ps.length c] w fun e w' => ∃ v, e = .returned v ∧ w'.ownsRow w.heap.size 9 1 v (sumN ps) (allC ps) ∧ Below w.heap.size w w' := by
  obtain ⟨i0, hi, hz0, hz1, hz2⟩ := info_parts info9
  have H := hidI h
  clear h
  go_enter Tryd.func68, Tryd.ntmps68
  go_wp2_with fail
  go_loop [3, 11] (fun n i => ∃ k : Nat, k ≤ ps.length ∧ i = .int .i64 k ∧ n = .int .i64 (sumN (ps.take k))) (fun _ i => ps.length - (intOf i).toNat)
  case atStart => exact ⟨0, Nat.zero_le _, rfl, rfl⟩
  case round =>
    obtain ⟨k, hk, rfl, rfl⟩ := hrel
    have hs1 := sumN_take_le ps k
    by_cases hlt : k < ps.length
    · obtain ⟨p, hp⟩ : ∃ p, ps[k]? = some p := ⟨ps[k], List.getElem?_eq_getElem hlt⟩
      have hs2 : Hid (sumN (ps.take (k + 1)) = sumN (ps.take k) + p.n) := hidI (by rw [take_snoc' hp, sumN_snoc])
      have hpn := (H.out k p hp).2.2.1
      have hcell := (H.out k p hp).1
      have hf : ∃ a cc, p.v = .slice a p.n cc := by
        rcases (H.out k p hp).2.2.2.2 with ⟨e, e0⟩ | ⟨ad, cc, e, _⟩
        · exact ⟨_, _, by rw [e, e0]⟩
        · exact ⟨_, _, e⟩
      obtain ⟨a, cc, hv⟩ := hf
      rw [hv] at hcell
      have HP := hidI hp
      have HV := hidI hv
      clear hp hv
      go_wp2_with fail
      go_round
      case rel => exact ⟨k + 1, by omega, by go_num, by rw [hs2.out]; go_num⟩
      case measure => simp [intOf]; omega
    · have hke : k = ps.length := by omega
      subst hke
      rw [List.take_length]
      go_wp2_with fail
      refine (growS _ (sumN ps) (by omega)).mono ?_
      rintro e w1 ⟨v1, rfl, ho1, hb1⟩
      have O1 : Hid (w1.ownsRow w.heap.size 9 1 v1 0 [] ∧ Below w.heap.size w w1) := ⟨ho1, hb1⟩
      clear ho1 hb1 hs1 hlt hk
      go_wp2_with fail
      go_loopg [6, 27] ps.length (fun g nv i wr => ∃ k : Nat, k ≤ ps.length ∧ g = ps.length - k ∧ i = .int .i64 k ∧ wr.ownsRow w.heap.size 9 1 nv (sumN (ps.take k)) (allC (ps.take k)) ∧ Below w.heap.size w wr)
      case atStart => exact ⟨0, Nat.zero_le _, rfl, rfl, O1.out.1, O1.out.2⟩
      case round =>
        obtain ⟨k, hk, hgk, rfl, ho, hb⟩ := hrel
        have A : Hid (gk = ps.length - k ∧ wr.ownsRow w.heap.size 9 1 u6 (sumN (ps.take k)) (allC (ps.take k)) ∧ Below w.heap.size w wr) := ⟨hgk, ho, hb⟩
        have hsz := hb.size
        have hs1 := sumN_take_le ps k
        by_cases hlt : k < ps.length
        · obtain ⟨p, hp⟩ : ∃ p, ps[k]? = some p := ⟨ps[k], List.getElem?_eq_getElem hlt⟩
          have hsl := (H.out k p hp).2.below hb
          have hcell : wr.cell? ⟨b, off + k, none⟩ = some p.v := by
            have := (H.out k p hp).1
            rw [World.cell?_of_block (hb.block _ (World.block_lt_of_cell? w _ this))]; exact this
          have hs2 : Hid (sumN (ps.take (k + 1)) = sumN (ps.take k) + p.n ∧ allC (ps.take (k + 1)) = allC (ps.take k) ++ p.cells) := hidI (by rw [take_snoc' hp, sumN_snoc, allC_snoc]; exact ⟨rfl, rfl⟩)
          clear hgk ho hb hp
          obtain ⟨g1, g2, g3, g4⟩ := hsl
          rcases g4 with ⟨hv, h0⟩ | ⟨ad, cc, hv, hcs⟩
          · rw [hv] at hcell
            have hc0 : p.cells = [] := List.eq_nil_of_length_eq_zero (by rw [g1, h0])
            rw [h0, hc0] at hs2
            clear g1 g2 g3 hv h0 hc0
            go_wp2_with (at_builtin; go_must (refine wpList_append_own_none rfl _ _ 22 rfl w.heap.size 9 i0 1 Tryd.underlying22 hi u6 (sumN (ps.take k)) (allC (ps.take k)) rfl A.out.2.1 rfl ?_); refine Hid.out ?_)
            refine hidI ?_
            go_wp2_with fail
            obtain ⟨hgk, ho, hb⟩ := A.out
            go_roundg (ps.length - (k + 1))
            case measure => omega
            case rel => exact ⟨k + 1, by omega, rfl, by go_num, by rw [hs2.out.1, hs2.out.2, List.append_nil, Nat.add_zero]; exact ho, hb⟩
          · rw [hv] at hcell
            have C : Hid (p.cells.length = p.n * 1 ∧ (∀ u ∈ p.cells, u.oneCell' = true) ∧ ∀ j u, p.cells[j]? = some u → wr.cell? (ad.add j) = some u) := ⟨g1, g3, hcs⟩
            have hs3 := hs2.out.1
            have hs4 := sumN_take_le ps (k + 1)
            have hm : sumN (ps.take k) + p.n ≤ 1000000 := by omega
            clear g1 g3 hcs hv hs3 hs4
            go_wp2_with (at_builtin; go_must (refine wpList_append_own _ rfl _ _ 22 rfl w.heap.size 9 i0 _ 1 16 Tryd.underlying22 hi hz0 hz1 hz2 rfl (by decide) u6 (sumN (ps.take k)) (allC (ps.take k)) rfl A.out.2.1 ad p.n cc p.cells rfl C.out.1 C.out.2.2 C.out.2.1 (by unfold maxLen; omega) (by omega) hsz ?_); intro v2 w2 ho2 hg2 _; refine Hid.out ?_)
            refine hidI ?_
            have D : Hid (w2.ownsRow w.heap.size 9 1 v2 (sumN (ps.take k) + p.n) (allC (ps.take k) ++ p.cells) ∧ wr.grownBy w2 u6.ownBlock) := ⟨ho2, hg2⟩
            clear ho2 hg2
            go_wp2_with fail
            obtain ⟨hgk, ho, hb⟩ := A.out
            go_roundg (ps.length - (k + 1))
            case measure => omega
            case rel => exact ⟨k + 1, by omega, rfl, by go_num, by rw [hs2.out.1, hs2.out.2]; exact D.out.1, hb.grown D.out.2 hsz (fun j hj => (ho.lt j hj).1)⟩
        · have hke : k = ps.length := by omega
          subst hke
          clear hgk ho hb
          go_wp2_with fail
          go_ret
          obtain ⟨hgk, ho, hb⟩ := A.out
          rw [List.take_length] at ho
          exact ⟨u6, rfl, ho, hb⟩

set_option maxRecDepth 100000 in
set_option maxHeartbeats 1000000 in
theorem growV (w : World) (n : Nat) (h : n ≤ 4000000) :
    Calls Tryd.prog 77 #[.slice none 0 0, .int .i64 n] w fun e w' => ∃ v, e = .returned v ∧ w'.ownsRow w.heap.size 25 5 v 0 [] ∧ Below w.heap.size w w' := by
  obtain ⟨i0, hi, hz0, hz1, hz2⟩ := info_parts info25
  rcases Nat.eq_zero_or_pos n with rfl | h0
  · go_enter Tryd.func77, Tryd.ntmps77
    go_wp2
    go_ret
    exact ⟨_, rfl, World.ownsRow_nil _ _ _ _, Below.refl _ _⟩
  · have hr := Lib.run_append_nil_zeros (P := Tryd.prog) w 23 3 23 25 i0 _ .i64 .i64 Tryd.underlying23 Tryd.underlying3 hi hz0 n h0 (by rw [hz1]; omega) (by omega) (by rw [hz2]; omega)
    have hR := hidI hr
    clear hr
    have e1 : ¬ ((n : Int) < 0) := by omega
    have e2 : (0 : Int) < (n : Int) := by omega
    go_enter Tryd.func77, Tryd.ntmps77
    go_wp2_with (at_builtin; go_must (refine Lib.wpList_append_run _ rfl _ _ _ _ rfl (.slice none 0 0) (.int .i64 n) rfl rfl _ _ hR.out ?_); refine Hid.out ?_)
    refine hidI ?_
    have hge := grownCap_ge w n 0 25
    have hle := grownCap_le_maxLen w n 0 25 (by unfold maxLen; omega)
    generalize grownCap w n 0 25 = cap at hge hle ⊢
    clear hR
    have O : Hid (∀ cur : Array Value, cur.size = cap * 5 → (w.alloc (.cells cur 25)).drew.ownsRow w.heap.size 25 5 (.slice (some ⟨w.heap.size, 0, none⟩) 0 cap) 0 []) := by
      intro cur hcur
      exact (World.ownsRow_made w cur cap (Nat.le_refl _) hle hcur)
    have hcap : (0 : Int) ≤ (cap : Int) := by omega
    unfold maxLen at hle
    go_wp2
    go_ret
    refine ⟨_, rfl, O.out _ ?_, ((Below.refl _ w).alloc (Nat.le_refl _) _).drew⟩
    rw [Array.size_append, size_zeroCells, size_zeroCells]
    simp only [List.size_toArray, List.length_cons, List.length_nil]
    omega

/- What the loops of Concat know of its argument. -/
def ArgsV (w : World) (b off : Nat) (ps : List Part) : Prop :=
  ∀ i p, ps[i]? = some p → w.cell? ⟨b, off + i, none⟩ = some p.v ∧ SlIs w 5 p.v p.n p.cells

set_option maxRecDepth 100000 in
set_option maxHeartbeats 1000000 in
theorem concatV (w : World) (b off c : Nat) (ps : List Part) (h : ArgsV w b off ps) (hn : sumN ps ≤ 1000000) (hl : ps.length ≤ 10) (hlc : ps.length ≤ c) :
    Calls Tryd.prog 67 #[.slice (some ⟨b, off, none⟩) ps.length c] w fun e w' => ∃ v, e = .returned v ∧ w'.ownsRow w.heap.size 25 5 v (sumN ps) (allC ps) ∧ Below w.heap.size w w' := by
  obtain ⟨i0, hi, hz0, hz1, hz2⟩ := info_parts info25
  have H := hidI h
  clear h
  go_enter Tryd.func67, Tryd.ntmps67
  go_wp2_with fail
  go_loop [3, 11] (fun n i => ∃ k : Nat, k ≤ ps.length ∧ i = .int .i64 k ∧ n = .int .i64 (sumN (ps.take k))) (fun _ i => ps.length - (intOf i).toNat)
  case atStart => exact ⟨0, Nat.zero_le _, rfl, rfl⟩
  case round =>
    obtain ⟨k, hk, rfl, rfl⟩ := hrel
    have hs1 := sumN_take_le ps k
    by_cases hlt : k < ps.length
    · obtain ⟨p, hp⟩ : ∃ p, ps[k]? = some p := ⟨ps[k], List.getElem?_eq_getElem hlt⟩
      have hs2 : Hid (sumN (ps.take (k + 1)) = sumN (ps.take k) + p.n) := hidI (by rw [take_snoc' hp, sumN_snoc])
      have hpn := (H.out k p hp).2.2.1
      have hcell := (H.out k p hp).1
      have hf : ∃ a cc, p.v = .slice a p.n cc := by
        rcases (H.out k p hp).2.2.2.2 with ⟨e, e0⟩ | ⟨ad, cc, e, _⟩
        · exact ⟨_, _, by rw [e, e0]⟩
        · exact ⟨_, _, e⟩
      obtain ⟨a, cc, hv⟩ := hf
      rw [hv] at hcell
      have HP := hidI hp
      have HV := hidI hv
      clear hp hv
      go_wp2_with fail
      go_round
      case rel => exact ⟨k + 1, by omega, by go_num, by rw [hs2.out]; go_num⟩
      case measure => simp [intOf]; omega
    · have hke : k = ps.length := by omega
      subst hke
      rw [List.take_length]
      go_wp2_with fail
      refine (growV _ (sumN ps) (by omega)).mono ?_
      rintro e w1 ⟨v1, rfl, ho1, hb1⟩
      have O1 : Hid (w1.ownsRow w.heap.size 25 5 v1 0 [] ∧ Below w.heap.size w w1) := ⟨ho1, hb1⟩
      clear ho1 hb1 hs1 hlt hk
      go_wp2_with fail
      go_loopg [6, 27] ps.length (fun g nv i wr => ∃ k : Nat, k ≤ ps.length ∧ g = ps.length - k ∧ i = .int .i64 k ∧ wr.ownsRow w.heap.size 25 5 nv (sumN (ps.take k)) (allC (ps.take k)) ∧ Below w.heap.size w wr)
      case atStart => exact ⟨0, Nat.zero_le _, rfl, rfl, O1.out.1, O1.out.2⟩
      case round =>
        obtain ⟨k, hk, hgk, rfl, ho, hb⟩ := hrel
        have A : Hid (gk = ps.length - k ∧ wr.ownsRow w.heap.size 25 5 u6 (sumN (ps.take k)) (allC (ps.take k)) ∧ Below w.heap.size w wr) := ⟨hgk, ho, hb⟩
        have hsz := hb.size
        have hs1 := sumN_take_le ps k
        by_cases hlt : k < ps.length
        · obtain ⟨p, hp⟩ : ∃ p, ps[k]? = some p := ⟨ps[k], List.getElem?_eq_getElem hlt⟩
          have hsl := (H.out k p hp).2.below hb
          have hcell : wr.cell? ⟨b, off + k, none⟩ = some p.v := by
            have := (H.out k p hp).1
            rw [World.cell?_of_block (hb.block _ (World.block_lt_of_cell? w _ this))]; exact this
          have hs2 : Hid (sumN (ps.take (k + 1)) = sumN (ps.take k) + p.n ∧ allC (ps.take (k + 1)) = allC (ps.take k) ++ p.cells) := hidI (by rw [take_snoc' hp, sumN_snoc, allC_snoc]; exact ⟨rfl, rfl⟩)
          clear hgk ho hb hp
          obtain ⟨g1, g2, g3, g4⟩ := hsl
          rcases g4 with ⟨hv, h0⟩ | ⟨ad, cc, hv, hcs⟩
          · rw [hv] at hcell
            have hc0 : p.cells = [] := List.eq_nil_of_length_eq_zero (by rw [g1, h0])
            rw [h0, hc0] at hs2
            clear g1 g2 g3 hv h0 hc0
            go_wp2_with (at_builtin; go_must (refine wpList_append_own_none rfl _ _ 23 rfl w.heap.size 25 i0 5 Tryd.underlying23 hi u6 (sumN (ps.take k)) (allC (ps.take k)) rfl A.out.2.1 rfl ?_); refine Hid.out ?_)
            refine hidI ?_
            go_wp2_with fail
            obtain ⟨hgk, ho, hb⟩ := A.out
            go_roundg (ps.length - (k + 1))
            case measure => omega
            case rel => exact ⟨k + 1, by omega, rfl, by go_num, by rw [hs2.out.1, hs2.out.2, List.append_nil, Nat.add_zero]; exact ho, hb⟩
          · rw [hv] at hcell
            have C : Hid (p.cells.length = p.n * 5 ∧ (∀ u ∈ p.cells, u.oneCell' = true) ∧ ∀ j u, p.cells[j]? = some u → wr.cell? (ad.add j) = some u) := ⟨g1, g3, hcs⟩
            have hs3 := hs2.out.1
            have hs4 := sumN_take_le ps (k + 1)
            have hm : sumN (ps.take k) + p.n ≤ 1000000 := by omega
            clear g1 g3 hcs hv hs3 hs4
            go_wp2_with (at_builtin; go_must (refine wpList_append_own _ rfl _ _ 23 rfl w.heap.size 25 i0 _ 5 80 Tryd.underlying23 hi hz0 hz1 hz2 rfl (by decide) u6 (sumN (ps.take k)) (allC (ps.take k)) rfl A.out.2.1 ad p.n cc p.cells rfl C.out.1 C.out.2.2 C.out.2.1 (by unfold maxLen; omega) (by omega) hsz ?_); intro v2 w2 ho2 hg2 _; refine Hid.out ?_)
            refine hidI ?_
            have D : Hid (w2.ownsRow w.heap.size 25 5 v2 (sumN (ps.take k) + p.n) (allC (ps.take k) ++ p.cells) ∧ wr.grownBy w2 u6.ownBlock) := ⟨ho2, hg2⟩
            clear ho2 hg2
            go_wp2_with fail
            obtain ⟨hgk, ho, hb⟩ := A.out
            go_roundg (ps.length - (k + 1))
            case measure => omega
            case rel => exact ⟨k + 1, by omega, rfl, by go_num, by rw [hs2.out.1, hs2.out.2]; exact D.out.1, hb.grown D.out.2 hsz (fun j hj => (ho.lt j hj).1)⟩
        · have hke : k = ps.length := by omega
          subst hke
          clear hgk ho hb
          go_wp2_with fail
          go_ret
          obtain ⟨hgk, ho, hb⟩ := A.out
          rw [List.take_length] at ho
          exact ⟨u6, rfl, ho, hb⟩
end Go.Proofs.YtkboplcffailoaaDoor
