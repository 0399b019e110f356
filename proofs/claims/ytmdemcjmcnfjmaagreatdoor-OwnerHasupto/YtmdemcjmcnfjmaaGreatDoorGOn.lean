/- What hasLeaf, other and blockedBy of package owner answer. -/
import Derived.Test.YtmdemcjmcnfjmaaGreatDoorTp
import Derived.Test.YtmdemcjmcnfjmaaGreatDoorSho
import Derived.Test.YtmdemcjmcnfjmaaGreatDoorCz
import Derived.Test.YtmdemcjmcnfjmaaGreatDoorCy
import Derived.Test.YtmdemcjmcnfjmaaGreatDoorWc
import Derived.Lib.SplitLaws
import Derived.Test.YtmdemcjmcnfjmaaGreatDoorXz
import Derived.Test.YtmdemcjmcnfjmaaGreatDoorOp
import Derived.Test.YtmdemcjmcnfjmaaGreatDoorOw
import Derived.Shelf.Abstract
import Derived.Test.YtmdemcjmcnfjmaaGreatDoorSj
import Derived.Deep.AppendLies
import Derived.Deep.DrawnRows
import Derived.Deep.DeepCutAuto
import Derived.Deep.CutBlock
import Derived.Test.YtmdemcjmcnfjmaaGreatDoorCo
import Derived.Test.YtmdemcjmcnfjmaaGreatDoorShq
/- What above of package owner does. -/
set_option linter.unusedSimpArgs false
set_option linter.unusedVariables false
namespace Go.Proofs.YtmdemcjmcnfjmaaGreatDoor
open Go.RowKit

theorem cut_above (p q : List UInt8) : (Lib.hasPrefix q p && Lib.hasPrefix (Lib.trimPrefix q p) [47]) = (p ++ [47]).isPrefixOf q := by
  unfold Lib.trimPrefix Lib.hasPrefix
  by_cases h : p.isPrefixOf q = true
  · obtain ⟨r, rfl⟩ := List.isPrefixOf_iff_prefix.1 h
    rw [h, if_pos rfl, List.drop_left, Bool.true_and]
    rw [Bool.eq_iff_iff, List.isPrefixOf_iff_prefix, List.isPrefixOf_iff_prefix, List.prefix_append_right_inj]
  · have h2 : p.isPrefixOf q = false := Bool.eq_false_iff.2 h
    have h3 : (p ++ [47]).isPrefixOf q = false := by
      rw [Bool.eq_false_iff]
      intro h9
      obtain ⟨r, rfl⟩ := List.isPrefixOf_iff_prefix.1 h9
      exact h (List.isPrefixOf_iff_prefix.2 ⟨[47] ++ r, by simp⟩)
    rw [h2, h3]; rfl
set_option maxRecDepth 100000 in
set_option maxHeartbeats 4000000 in
theorem above_at (w : World) (p q : List UInt8) :
    Calls Tryz.prog 55 #[str p, str q] w fun e w' => e = .returned (.bool ((p ++ [47]).isPrefixOf q)) ∧ w' = w := by
  have CA := hidI (cut_above p q)
  unfold str
  have hpx := Tryz.strings_CutPrefix ⟨q.toArray⟩ ⟨p.toArray⟩ w
  simp only [List.toList_toArray] at hpx
  go_enter Tryz.func55, Tryz.ntmps55
  go_wp2_with fail
  refine hpx.mono ?_
  rintro e w1 ⟨rfl, hw1⟩
  have hw2 := hw1.symm
  subst hw2
  clear hpx hw1
  cases hb : Lib.hasPrefix q p with
  | false =>
    have R : Hid ((p ++ [47]).isPrefixOf q = false) := hidI (by rw [← CA.out, hb]; rfl)
    clear hb
    go_wp2_with fail
    go_ret
    exact ⟨by rw [R.out]; first | done | rfl, rfl⟩
  | true =>
    have R : Hid ((p ++ [47]).isPrefixOf q = Lib.hasPrefix (Lib.trimPrefix q p) [47]) := hidI (by rw [← CA.out, hb]; rfl)
    clear hb
    have hpy := Tryz.strings_HasPrefix ⟨(Lib.trimPrefix q p).toArray⟩ ⟨#[47]⟩ w
    simp only [List.toList_toArray] at hpy
    go_wp2_with fail
    refine hpy.mono ?_
    rintro e w2 ⟨rfl, hw3⟩
    have hw4 := hw3.symm
    subst hw4
    clear hpy hw3
    go_wp2_with fail
    go_ret
    exact ⟨by rw [R.out]; first | done | rfl, rfl⟩
end Go.Proofs.YtmdemcjmcnfjmaaGreatDoor

/- What slices.Grow and slices.Concat do, at lists of texts and at lists of values. -/
set_option linter.unusedSimpArgs false
set_option linter.unusedVariables false
namespace Go.Proofs.YtmdemcjmcnfjmaaGreatDoor
open Go.RowKit

set_option maxRecDepth 100000 in
set_option maxHeartbeats 1000000 in
theorem growS (w : World) (n : Nat) (h : n ≤ 4000000) :
    Calls Tryz.prog 149 #[.slice none 0 0, .int .i64 n] w fun e w' => ∃ v, e = .returned v ∧ w'.ownsRow w.heap.size 9 1 v 0 [] ∧ Below w.heap.size w w' := by
  obtain ⟨i0, hi, hz0, hz1, hz2⟩ := info_parts info9
  rcases Nat.eq_zero_or_pos n with rfl | h0
  · go_enter Tryz.func149, Tryz.ntmps149
    go_wp2
    go_ret
    exact ⟨_, rfl, World.ownsRow_nil _ _ _ _, Below.refl _ _⟩
  · have hr := Lib.run_append_nil_zeros (P := Tryz.prog) w 22 3 22 9 i0 _ .i64 .i64 Tryz.underlying22 Tryz.underlying3 hi hz0 n h0 (by rw [hz1]; omega) (by omega) (by rw [hz2]; omega)
    have hR := hidI hr
    clear hr
    have e1 : ¬ ((n : Int) < 0) := by omega
    have e2 : (0 : Int) < (n : Int) := by omega
    go_enter Tryz.func149, Tryz.ntmps149
    go_wp2_with (at_builtin; go_must (refine Lib.wpList_append_run _ rfl _ _ _ _ rfl (.slice none 0 0) (.int .i64 n) rfl rfl _ _ hR.out ?_); refine Hid.out ?_)
    refine hidI ?_
    have hge := grownCap_ge w n 0 9
    have hle := grownCap_le_maxLen w n 0 9 (by unfold maxLen; omega)
    generalize grownCap w n 0 9 = cap at hge hle ⊢
    clear hR
    have O : Hid (∀ cur : Array Value, cur.size = cap * 1 → (w.alloc (.cells cur 9)).drew.ownsRow w.heap.size 9 1 (.slice (some ⟨w.heap.size, 0, none⟩) 0 cap) 0 []) := by
      intro cur hcur
      exact (World.ownsRow_made w cur cap (Nat.le_refl _) hle hcur)
    have hcap : (0 : Int) ≤ (cap : Int) := by omega
    unfold maxLen at hle
    go_wp2
    go_ret
    refine ⟨_, rfl, O.out _ ?_, ((Below.refl _ w).alloc (Nat.le_refl _) _).drew⟩
    rw [Array.size_append, size_zeroCells, size_zeroCells]
    simp only [List.size_toArray, List.length_cons, List.length_nil]
    omega

/- What the loops of Concat know of its argument. -/
def ArgsS (w : World) (b off : Nat) (ps : List Part) : Prop :=
  ∀ i p, ps[i]? = some p → w.cell? ⟨b, off + i, none⟩ = some p.v ∧ SlIs w 1 p.v p.n p.cells

set_option maxRecDepth 100000 in
set_option maxHeartbeats 1000000 in
theorem concatS (w : World) (b off c : Nat) (ps : List Part) (h : ArgsS w b off ps) (hn : sumN ps ≤ 1000000) (hl : ps.length ≤ 10) (hlc : ps.length ≤ c) :
    Calls Tryz.prog 123 #[.slice (some ⟨b, off, none⟩) ps.length c] w fun e w' => ∃ v, e = .returned v ∧ w'.ownsRow w.heap.size 9 1 v (sumN ps) (allC ps) ∧ Below w.heap.size w w' := by
  obtain ⟨i0, hi, hz0, hz1, hz2⟩ := info_parts info9
  have H := hidI h
  clear h
  go_enter Tryz.func123, Tryz.ntmps123
  go_wp2_with fail
  go_loop [3, 11] (fun n i => ∃ k : Nat, k ≤ ps.length ∧ i = .int .i64 k ∧ n = .int .i64 (sumN (ps.take k))) (fun _ i => ps.length - (intOf i).toNat)
  case atStart => exact ⟨0, Nat.zero_le _, rfl, rfl⟩
  case round =>
    obtain ⟨k, hk, rfl, rfl⟩ := hrel
    have hs1 := sumN_take_le ps k
    by_cases hlt : k < ps.length
    · obtain ⟨p, hp⟩ : ∃ p, ps[k]? = some p := ⟨ps[k], List.getElem?_eq_getElem hlt⟩
      have hs2 : Hid (sumN (ps.take (k + 1)) = sumN (ps.take k) + p.n) := hidI (by rw [take_snoc' hp, sumN_snoc])
      have hpn := (H.out k p hp).2.2.1
      have hcell := (H.out k p hp).1
      have hf : ∃ a cc, p.v = .slice a p.n cc := by
        rcases (H.out k p hp).2.2.2.2 with ⟨e, e0⟩ | ⟨ad, cc, e, _⟩
        · exact ⟨_, _, by rw [e, e0]⟩
        · exact ⟨_, _, e⟩
      obtain ⟨a, cc, hv⟩ := hf
      rw [hv] at hcell
      have HP := hidI hp
      have HV := hidI hv
      clear hp hv
      go_wp2_with fail
      go_round
      case rel => exact ⟨k + 1, by omega, by go_num, by rw [hs2.out]; go_num⟩
      case measure => simp [intOf]; omega
    · have hke : k = ps.length := by omega
      subst hke
      rw [List.take_length]
      go_wp2_with fail
      refine (growS _ (sumN ps) (by omega)).mono ?_
      rintro e w1 ⟨v1, rfl, ho1, hb1⟩
      have O1 : Hid (w1.ownsRow w.heap.size 9 1 v1 0 [] ∧ Below w.heap.size w w1) := ⟨ho1, hb1⟩
      clear ho1 hb1 hs1 hlt hk
      go_wp2_with fail
      go_loopg [6, 27] ps.length (fun g nv i wr => ∃ k : Nat, k ≤ ps.length ∧ g = ps.length - k ∧ i = .int .i64 k ∧ wr.ownsRow w.heap.size 9 1 nv (sumN (ps.take k)) (allC (ps.take k)) ∧ Below w.heap.size w wr)
      case atStart => exact ⟨0, Nat.zero_le _, rfl, rfl, O1.out.1, O1.out.2⟩
      case round =>
        obtain ⟨k, hk, hgk, rfl, ho, hb⟩ := hrel
        have A : Hid (gk = ps.length - k ∧ wr.ownsRow w.heap.size 9 1 u6 (sumN (ps.take k)) (allC (ps.take k)) ∧ Below w.heap.size w wr) := ⟨hgk, ho, hb⟩
        have hsz := hb.size
        have hs1 := sumN_take_le ps k
        by_cases hlt : k < ps.length
        · obtain ⟨p, hp⟩ : ∃ p, ps[k]? = some p := ⟨ps[k], List.getElem?_eq_getElem hlt⟩
          have hsl := (H.out k p hp).2.below hb
          have hcell : wr.cell? ⟨b, off + k, none⟩ = some p.v := by
            have := (H.out k p hp).1
            rw [World.cell?_of_block (hb.block _ (World.block_lt_of_cell? w _ this))]; exact this
          have hs2 : Hid (sumN (ps.take (k + 1)) = sumN (ps.take k) + p.n ∧ allC (ps.take (k + 1)) = allC (ps.take k) ++ p.cells) := hidI (by rw [take_snoc' hp, sumN_snoc, allC_snoc]; exact ⟨rfl, rfl⟩)
          clear hgk ho hb hp
          obtain ⟨g1, g2, g3, g4⟩ := hsl
          rcases g4 with ⟨hv, h0⟩ | ⟨ad, cc, hv, hcs⟩
          · rw [hv] at hcell
            have hc0 : p.cells = [] := List.eq_nil_of_length_eq_zero (by rw [g1, h0])
            rw [h0, hc0] at hs2
            clear g1 g2 g3 hv h0 hc0
            go_wp2_with (at_builtin; go_must (refine wpList_append_own_none rfl _ _ 22 rfl w.heap.size 9 i0 1 Tryz.underlying22 hi u6 (sumN (ps.take k)) (allC (ps.take k)) rfl A.out.2.1 rfl ?_); refine Hid.out ?_)
            refine hidI ?_
            go_wp2_with fail
            obtain ⟨hgk, ho, hb⟩ := A.out
            go_roundg (ps.length - (k + 1))
            case measure => omega
            case rel => exact ⟨k + 1, by omega, rfl, by go_num, by rw [hs2.out.1, hs2.out.2, List.append_nil, Nat.add_zero]; exact ho, hb⟩
          · rw [hv] at hcell
            have C : Hid (p.cells.length = p.n * 1 ∧ (∀ u ∈ p.cells, u.oneCell' = true) ∧ ∀ j u, p.cells[j]? = some u → wr.cell? (ad.add j) = some u) := ⟨g1, g3, hcs⟩
            have hs3 := hs2.out.1
            have hs4 := sumN_take_le ps (k + 1)
            have hm : sumN (ps.take k) + p.n ≤ 1000000 := by omega
            clear g1 g3 hcs hv hs3 hs4
            go_wp2_with (at_builtin; go_must (refine wpList_append_own _ rfl _ _ 22 rfl w.heap.size 9 i0 _ 1 16 Tryz.underlying22 hi hz0 hz1 hz2 rfl (by decide) u6 (sumN (ps.take k)) (allC (ps.take k)) rfl A.out.2.1 ad p.n cc p.cells rfl C.out.1 C.out.2.2 C.out.2.1 (by unfold maxLen; omega) (by omega) hsz ?_); intro v2 w2 ho2 hg2 _; refine Hid.out ?_)
            refine hidI ?_
            have D : Hid (w2.ownsRow w.heap.size 9 1 v2 (sumN (ps.take k) + p.n) (allC (ps.take k) ++ p.cells) ∧ wr.grownBy w2 u6.ownBlock) := ⟨ho2, hg2⟩
            clear ho2 hg2
            go_wp2_with fail
            obtain ⟨hgk, ho, hb⟩ := A.out
            go_roundg (ps.length - (k + 1))
            case measure => omega
            case rel => exact ⟨k + 1, by omega, rfl, by go_num, by rw [hs2.out.1, hs2.out.2]; exact D.out.1, hb.grown D.out.2 hsz (fun j hj => (ho.lt j hj).1)⟩
        · have hke : k = ps.length := by omega
          subst hke
          clear hgk ho hb
          go_wp2_with fail
          go_ret
          obtain ⟨hgk, ho, hb⟩ := A.out
          rw [List.take_length] at ho
          exact ⟨u6, rfl, ho, hb⟩

set_option maxRecDepth 100000 in
set_option maxHeartbeats 1000000 in
theorem growV (w : World) (n : Nat) (h : n ≤ 4000000) :
    Calls Tryz.prog 124 #[.slice none 0 0, .int .i64 n] w fun e w' => ∃ v, e = .returned v ∧ w'.ownsRow w.heap.size 25 5 v 0 [] ∧ Below w.heap.size w w' := by
  obtain ⟨i0, hi, hz0, hz1, hz2⟩ := info_parts info25
  rcases Nat.eq_zero_or_pos n with rfl | h0
  · go_enter Tryz.func124, Tryz.ntmps124
    go_wp2
    go_ret
    exact ⟨_, rfl, World.ownsRow_nil _ _ _ _, Below.refl _ _⟩
  · have hr := Lib.run_append_nil_zeros (P := Tryz.prog) w 23 3 23 25 i0 _ .i64 .i64 Tryz.underlying23 Tryz.underlying3 hi hz0 n h0 (by rw [hz1]; omega) (by omega) (by rw [hz2]; omega)
    have hR := hidI hr
    clear hr
    have e1 : ¬ ((n : Int) < 0) := by omega
    have e2 : (0 : Int) < (n : Int) := by omega
    go_enter Tryz.func124, Tryz.ntmps124
    go_wp2_with (at_builtin; go_must (refine Lib.wpList_append_run _ rfl _ _ _ _ rfl (.slice none 0 0) (.int .i64 n) rfl rfl _ _ hR.out ?_); refine Hid.out ?_)
    refine hidI ?_
    have hge := grownCap_ge w n 0 25
    have hle := grownCap_le_maxLen w n 0 25 (by unfold maxLen; omega)
    generalize grownCap w n 0 25 = cap at hge hle ⊢
    clear hR
    have O : Hid (∀ cur : Array Value, cur.size = cap * 5 → (w.alloc (.cells cur 25)).drew.ownsRow w.heap.size 25 5 (.slice (some ⟨w.heap.size, 0, none⟩) 0 cap) 0 []) := by
      intro cur hcur
      exact (World.ownsRow_made w cur cap (Nat.le_refl _) hle hcur)
    have hcap : (0 : Int) ≤ (cap : Int) := by omega
    unfold maxLen at hle
    go_wp2
    go_ret
    refine ⟨_, rfl, O.out _ ?_, ((Below.refl _ w).alloc (Nat.le_refl _) _).drew⟩
    rw [Array.size_append, size_zeroCells, size_zeroCells]
    simp only [List.size_toArray, List.length_cons, List.length_nil]
    omega

/- What the loops of Concat know of its argument. -/
def ArgsV (w : World) (b off : Nat) (ps : List Part) : Prop :=
  ∀ i p, ps[i]? = some p → w.cell? ⟨b, off + i, none⟩ = some p.v ∧ SlIs w 5 p.v p.n p.cells

set_option maxRecDepth 100000 in
set_option maxHeartbeats 1000000 in
theorem concatV (w : World) (b off c : Nat) (ps : List Part) (h : ArgsV w b off ps) (hn : sumN ps ≤ 1000000) (hl : ps.length ≤ 10) (hlc : ps.length ≤ c) :
    Calls Tryz.prog 79 #[.slice (some ⟨b, off, none⟩) ps.length c] w fun e w' => ∃ v, e = .returned v ∧ w'.ownsRow w.heap.size 25 5 v (sumN ps) (allC ps) ∧ Below w.heap.size w w' := by
  obtain ⟨i0, hi, hz0, hz1, hz2⟩ := info_parts info25
  have H := hidI h
  clear h
  go_enter Tryz.func79, Tryz.ntmps79
  go_wp2_with fail
  go_loop [3, 11] (fun n i => ∃ k : Nat, k ≤ ps.length ∧ i = .int .i64 k ∧ n = .int .i64 (sumN (ps.take k))) (fun _ i => ps.length - (intOf i).toNat)
  case atStart => exact ⟨0, Nat.zero_le _, rfl, rfl⟩
  case round =>
    obtain ⟨k, hk, rfl, rfl⟩ := hrel
    have hs1 := sumN_take_le ps k
    by_cases hlt : k < ps.length
    · obtain ⟨p, hp⟩ : ∃ p, ps[k]? = some p := ⟨ps[k], List.getElem?_eq_getElem hlt⟩
      have hs2 : Hid (sumN (ps.take (k + 1)) = sumN (ps.take k) + p.n) := hidI (by rw [take_snoc' hp, sumN_snoc])
      have hpn := (H.out k p hp).2.2.1
      have hcell := (H.out k p hp).1
      have hf : ∃ a cc, p.v = .slice a p.n cc := by
        rcases (H.out k p hp).2.2.2.2 with ⟨e, e0⟩ | ⟨ad, cc, e, _⟩
        · exact ⟨_, _, by rw [e, e0]⟩
        · exact ⟨_, _, e⟩
      obtain ⟨a, cc, hv⟩ := hf
      rw [hv] at hcell
      have HP := hidI hp
      have HV := hidI hv
      clear hp hv
      go_wp2_with fail
      go_round
      case rel => exact ⟨k + 1, by omega, by go_num, by rw [hs2.out]; go_num⟩
      case measure => simp [intOf]; omega
    · have hke : k = ps.length := by omega
      subst hke
      rw [List.take_length]
      go_wp2_with fail
      refine (growV _ (sumN ps) (by omega)).mono ?_
      rintro e w1 ⟨v1, rfl, ho1, hb1⟩
      have O1 : Hid (w1.ownsRow w.heap.size 25 5 v1 0 [] ∧ Below w.heap.size w w1) := ⟨ho1, hb1⟩
      clear ho1 hb1 hs1 hlt hk
      go_wp2_with fail
      go_loopg [6, 27] ps.length (fun g nv i wr => ∃ k : Nat, k ≤ ps.length ∧ g = ps.length - k ∧ i = .int .i64 k ∧ wr.ownsRow w.heap.size 25 5 nv (sumN (ps.take k)) (allC (ps.take k)) ∧ Below w.heap.size w wr)
      case atStart => exact ⟨0, Nat.zero_le _, rfl, rfl, O1.out.1, O1.out.2⟩
      case round =>
        obtain ⟨k, hk, hgk, rfl, ho, hb⟩ := hrel
        have A : Hid (gk = ps.length - k ∧ wr.ownsRow w.heap.size 25 5 u6 (sumN (ps.take k)) (allC (ps.take k)) ∧ Below w.heap.size w wr) := ⟨hgk, ho, hb⟩
        have hsz := hb.size
        have hs1 := sumN_take_le ps k
        by_cases hlt : k < ps.length
        · obtain ⟨p, hp⟩ : ∃ p, ps[k]? = some p := ⟨ps[k], List.getElem?_eq_getElem hlt⟩
          have hsl := (H.out k p hp).2.below hb
          have hcell : wr.cell? ⟨b, off + k, none⟩ = some p.v := by
            have := (H.out k p hp).1
            rw [World.cell?_of_block (hb.block _ (World.block_lt_of_cell? w _ this))]; exact this
          have hs2 : Hid (sumN (ps.take (k + 1)) = sumN (ps.take k) + p.n ∧ allC (ps.take (k + 1)) = allC (ps.take k) ++ p.cells) := hidI (by rw [take_snoc' hp, sumN_snoc, allC_snoc]; exact ⟨rfl, rfl⟩)
          clear hgk ho hb hp
          obtain ⟨g1, g2, g3, g4⟩ := hsl
          rcases g4 with ⟨hv, h0⟩ | ⟨ad, cc, hv, hcs⟩
          · rw [hv] at hcell
            have hc0 : p.cells = [] := List.eq_nil_of_length_eq_zero (by rw [g1, h0])
            rw [h0, hc0] at hs2
            clear g1 g2 g3 hv h0 hc0
            go_wp2_with (at_builtin; go_must (refine wpList_append_own_none rfl _ _ 23 rfl w.heap.size 25 i0 5 Tryz.underlying23 hi u6 (sumN (ps.take k)) (allC (ps.take k)) rfl A.out.2.1 rfl ?_); refine Hid.out ?_)
            refine hidI ?_
            go_wp2_with fail
            obtain ⟨hgk, ho, hb⟩ := A.out
            go_roundg (ps.length - (k + 1))
            case measure => omega
            case rel => exact ⟨k + 1, by omega, rfl, by go_num, by rw [hs2.out.1, hs2.out.2, List.append_nil, Nat.add_zero]; exact ho, hb⟩
          · rw [hv] at hcell
            have C : Hid (p.cells.length = p.n * 5 ∧ (∀ u ∈ p.cells, u.oneCell' = true) ∧ ∀ j u, p.cells[j]? = some u → wr.cell? (ad.add j) = some u) := ⟨g1, g3, hcs⟩
            have hs3 := hs2.out.1
            have hs4 := sumN_take_le ps (k + 1)
            have hm : sumN (ps.take k) + p.n ≤ 1000000 := by omega
            clear g1 g3 hcs hv hs3 hs4
            go_wp2_with (at_builtin; go_must (refine wpList_append_own _ rfl _ _ 23 rfl w.heap.size 25 i0 _ 5 80 Tryz.underlying23 hi hz0 hz1 hz2 rfl (by decide) u6 (sumN (ps.take k)) (allC (ps.take k)) rfl A.out.2.1 ad p.n cc p.cells rfl C.out.1 C.out.2.2 C.out.2.1 (by unfold maxLen; omega) (by omega) hsz ?_); intro v2 w2 ho2 hg2 _; refine Hid.out ?_)
            refine hidI ?_
            have D : Hid (w2.ownsRow w.heap.size 25 5 v2 (sumN (ps.take k) + p.n) (allC (ps.take k) ++ p.cells) ∧ wr.grownBy w2 u6.ownBlock) := ⟨ho2, hg2⟩
            clear ho2 hg2
            go_wp2_with fail
            obtain ⟨hgk, ho, hb⟩ := A.out
            go_roundg (ps.length - (k + 1))
            case measure => omega
            case rel => exact ⟨k + 1, by omega, rfl, by go_num, by rw [hs2.out.1, hs2.out.2]; exact D.out.1, hb.grown D.out.2 hsz (fun j hj => (ho.lt j hj).1)⟩
        · have hke : k = ps.length := by omega
          subst hke
          clear hgk ho hb
          go_wp2_with fail
          go_ret
          obtain ⟨hgk, ho, hb⟩ := A.out
          rw [List.take_length] at ho
          exact ⟨u6, rfl, ho, hb⟩
end Go.Proofs.YtmdemcjmcnfjmaaGreatDoor

/- Helpers for With and Without of package json. -/
set_option linter.unusedSimpArgs false
set_option linter.unusedVariables false
namespace Go.Proofs.YtmdemcjmcnfjmaaGreatDoor
open Go.RowKit

theorem concatV3 (w : World) (b : Nat) (p1 p2 p3 : Part) (q1 : w.cell? ⟨b, 0, none⟩ = some p1.v) (q2 : w.cell? ⟨b, 1, none⟩ = some p2.v) (q3 : w.cell? ⟨b, 2, none⟩ = some p3.v)
    (s1 : SlIs w 5 p1.v p1.n p1.cells) (s2 : SlIs w 5 p2.v p2.n p2.cells) (s3 : SlIs w 5 p3.v p3.n p3.cells) (hn : p1.n + p2.n + p3.n ≤ 1000000) :
    Calls Tryz.prog 79 #[.slice (some ⟨b, 0, none⟩) 3 3] w fun e w' => ∃ v, e = .returned v ∧ w'.ownsRow w.heap.size 25 5 v (p1.n + p2.n + p3.n) (p1.cells ++ p2.cells ++ p3.cells) ∧ Below w.heap.size w w' := by
  refine (concatV w b 0 3 [p1, p2, p3] ?_ (by simp [sumN]; omega) (by simp) (by simp)).mono ?_
  · intro i p hp
    match i, hp with
    | 0, hp => simp at hp; subst hp; exact ⟨q1, s1⟩
    | 1, hp => simp at hp; subst hp; exact ⟨q2, s2⟩
    | 2, hp => simp at hp; subst hp; exact ⟨q3, s3⟩
  · rintro e w' ⟨v, rfl, h1, h2⟩
    refine ⟨v, rfl, ?_, h2⟩
    have e1 : sumN [p1, p2, p3] = p1.n + p2.n + p3.n := by simp [sumN]; omega
    have e2 : allC [p1, p2, p3] = p1.cells ++ p2.cells ++ p3.cells := by simp [allC]
    rw [e1, e2] at h1; exact h1
theorem concatS3 (w : World) (b : Nat) (p1 p2 p3 : Part) (q1 : w.cell? ⟨b, 0, none⟩ = some p1.v) (q2 : w.cell? ⟨b, 1, none⟩ = some p2.v) (q3 : w.cell? ⟨b, 2, none⟩ = some p3.v)
    (s1 : SlIs w 1 p1.v p1.n p1.cells) (s2 : SlIs w 1 p2.v p2.n p2.cells) (s3 : SlIs w 1 p3.v p3.n p3.cells) (hn : p1.n + p2.n + p3.n ≤ 1000000) :
    Calls Tryz.prog 123 #[.slice (some ⟨b, 0, none⟩) 3 3] w fun e w' => ∃ v, e = .returned v ∧ w'.ownsRow w.heap.size 9 1 v (p1.n + p2.n + p3.n) (p1.cells ++ p2.cells ++ p3.cells) ∧ Below w.heap.size w w' := by
  refine (concatS w b 0 3 [p1, p2, p3] ?_ (by simp [sumN]; omega) (by simp) (by simp)).mono ?_
  · intro i p hp
    match i, hp with
    | 0, hp => simp at hp; subst hp; exact ⟨q1, s1⟩
    | 1, hp => simp at hp; subst hp; exact ⟨q2, s2⟩
    | 2, hp => simp at hp; subst hp; exact ⟨q3, s3⟩
  · rintro e w' ⟨v, rfl, h1, h2⟩
    refine ⟨v, rfl, ?_, h2⟩
    have e1 : sumN [p1, p2, p3] = p1.n + p2.n + p3.n := by simp [sumN]; omega
    have e2 : allC [p1, p2, p3] = p1.cells ++ p2.cells ++ p3.cells := by simp [allC]
    rw [e1, e2] at h1; exact h1

end Go.Proofs.YtmdemcjmcnfjmaaGreatDoor

/- What Split of package point does. -/
set_option linter.unusedSimpArgs false
set_option linter.unusedVariables false
namespace Go.Proofs.YtmdemcjmcnfjmaaGreatDoor
open Go.RowKit

theorem split_lens (a : UInt8) (s : List UInt8) : ∀ x ∈ Lib.split s [a], x.length ≤ s.length := by
  induction s with
  | nil => rw [split_nil]; simp
  | cons b r ih =>
    by_cases h : b = a
    · subst h
      rw [split_sep]
      intro x hx
      rcases List.mem_cons.1 hx with rfl | hx
      · simp
      · have := ih x hx
        simp only [List.length_cons]; omega
    · rw [split_other a b r h]
      cases hr : Lib.split r [a] with
      | nil => exact absurd hr (split_ne a r)
      | cons y ys =>
        rw [hr] at ih
        intro x hx
        rcases List.mem_cons.1 hx with rfl | hx
        · have := ih y (by simp)
          simp only [List.length_cons]; omega
        · have := ih x (by simp [hx])
          simp only [List.length_cons]; omega
theorem split_count (a : UInt8) (s : List UInt8) : (Lib.split s [a]).length ≤ s.length + 1 := by
  induction s with
  | nil => rw [split_nil]; simp
  | cons b r ih =>
    by_cases h : b = a
    · subst h
      rw [split_sep]; simp only [List.length_cons]; omega
    · rw [split_other a b r h]
      cases hr : Lib.split r [a] with
      | nil => exact absurd hr (split_ne a r)
      | cons y ys =>
        rw [hr] at ih
        simp only [List.length_cons] at ih ⊢; omega
/- What strings.Split leaves, as texts. -/
theorem split_cells (X : ByteArray) (r : List UInt8) (h : X.data.toList = r) :
    Lib.countB X ⟨#[47]⟩ + 1 = (Lib.split r [47]).length ∧ (Lib.splitB ⟨#[47]⟩ 0 (Lib.countB X ⟨#[47]⟩) X).map Value.string = (Lib.split r [47]).map str := by
  have h1 := Lib.splitB_all ⟨#[47]⟩ (by decide) 0 _ X rfl
  have h2 := Lib.splitB_data ⟨#[47]⟩ 0 (Lib.countB X ⟨#[47]⟩) X
  have e : Lib.splitK ([47] : List UInt8) 0 (Lib.countB X ⟨#[47]⟩) X.data.toList = Lib.split r [47] := by
    subst h; rfl
  have h3 : (Lib.splitB ⟨#[47]⟩ 0 (Lib.countB X ⟨#[47]⟩) X).map (fun x => x.data.toList) = Lib.split r [47] := h2.trans e
  refine ⟨?_, ?_⟩
  · rw [← h3, List.length_map, h1]
  · rw [← h3, List.map_map]
    apply List.map_congr_left
    intro x _
    simp only [Function.comp, str]

def midN (ns : List (List UInt8)) (k : Nat) : List (List UInt8) := (ns.take k).map unmarkedL ++ ns.drop k
theorem mid_at {ns : List (List UInt8)} {k : Nat} (h : k < ns.length) : (midN ns k)[k]? = some ns[k] := by
  unfold midN
  rw [List.getElem?_append_right (by simp; omega)]
  have : k - ((ns.take k).map unmarkedL).length = 0 := by simp; omega
  rw [this, List.getElem?_drop, Nat.add_zero, List.getElem?_eq_getElem h]
theorem mid_set {ns : List (List UInt8)} {k : Nat} (h : k < ns.length) : (midN ns k).set k (unmarkedL ns[k]) = midN ns (k + 1) := by
  unfold midN
  have hl : ((ns.take k).map unmarkedL).length = k := by simp; omega
  rw [List.set_append_right _ _ (by omega), hl, Nat.sub_self, List.drop_eq_getElem_cons h, List.set_cons_zero, List.take_add_one, List.getElem?_eq_getElem h]
  simp only [List.map_append, Option.toList_some, List.map_cons, List.map_nil, List.append_assoc, List.cons_append, List.nil_append]
theorem strs_cell {w : World} {g : Nat} {l : List (List UInt8)} (h : w.heap[g]? = some (.cells (l.map str).toArray 9)) {k : Nat} {x : List UInt8} (hk : l[k]? = some x) : w.cell? ⟨g, k, none⟩ = some (.string ⟨x.toArray⟩) ∧ w.frozen? ⟨g, k, none⟩ = false := by
  constructor
  · simp [World.cell?, h, hk, str]
  · simp [World.frozen?, h]

set_option maxRecDepth 100000 in
set_option maxHeartbeats 4000000 in
theorem split_at_ok (w : World) (c : UInt8) (r : List UInt8) (hc : c = 47) (hp : r.length + 1 ≤ 2000) (hw : wholeP (c :: r) = true) (hM : GlobM w) :
    Calls Tryz.prog 16 #[str (c :: r)] w fun e w' => ∃ (a : Option Addr) (cap : Nat), e = .returned (.tuple #[.slice a ((Lib.split r [47]).map unmarkedL).length cap, .int .i64 0]) ∧
      StrsAre w' (fun k => w.heap.size ≤ k) ((Lib.split r [47]).map unmarkedL) (.slice a ((Lib.split r [47]).map unmarkedL).length cap) ∧ Below w.heap.size w w' := by
  subst hc
  have HM := hidI hM
  clear hM
  have HW := hidI hw
  clear hw
  unfold str
  have hne : (ByteArray.mk (47 :: r).toArray == ByteArray.mk #[]) = false := ba_ne (by simp)
  have hsz : 0 < (ByteArray.mk (47 :: r).toArray).size := by rw [ba_size]; simp
  have hget : (ByteArray.mk (47 :: r).toArray)[0] = 47 := rfl
  have e0 : ¬ (2000 < (r.length : Int) + 1) := by omega
  go_enter Tryz.func16, Tryz.ntmps16
  go_wp2_with fail
  refine (whole_at _ (47 :: r) (by simp; omega)).mono ?_
  rintro e w1 ⟨rfl, hw1⟩
  rw [HW.out, hw1]
  clear hw1
  go_wp2_with fail
  obtain ⟨m, hm⟩ := HM.out
  obtain ⟨X, hX⟩ : ∃ X, (ByteArray.mk (47 :: r).toArray).extract 1 (ByteArray.mk (47 :: r).toArray).size = X := ⟨_, rfl⟩
  have hXd : X.data.toList = r := by
    rw [← hX, Lib.extract_to_end]; simp
  have hXs : X.size = r.length := by rw [Lib.size_eq, hXd]
  have hX2 : (ByteArray.mk (47 :: r).toArray).extract 1 (r.length + 1) = X := by rw [← hX, ba_size]; rfl
  rw [hX2]
  clear hX hX2
  refine (Tryz.strings_Split X ⟨#[47]⟩ m w (by omega) hm (by decide)).mono ?_
  rintro e w2 ⟨rfl, hw2⟩
  obtain ⟨hn, hcells⟩ := split_cells X r hXd
  rw [hn]
  rw [hcells] at hw2
  obtain ⟨ns, hns⟩ : ∃ ns, Lib.split r [47] = ns := ⟨_, rfl⟩
  have NL : Hid (∀ x ∈ ns, x.length ≤ 2000) := hidI (by rw [← hns]; intro x hx; have := split_lens 47 r x hx; omega)
  have nl : ns.length ≤ 2000 := by rw [← hns]; have := split_count 47 r; omega
  rw [hns] at hw2 ⊢
  have HNS := hidI hns
  clear hns hcells hn hXd hXs hm m
  have h2 : w2.heap[w.heap.size]? = some (.cells ((midN ns 0).map str).toArray 9) := by
    rw [hw2]
    have : midN ns 0 = ns := by simp [midN]
    rw [this]; exact heap_alloc_new w _
  have b2 : Below w.heap.size w w2 := by rw [hw2]; exact bel_alloc _ _
  have S2 : Hid (w2.heap[w.heap.size]? = some (.cells ((midN ns 0).map str).toArray 9) ∧ Below w.heap.size w w2) := ⟨h2, b2⟩
  clear h2 b2 hw2
  go_wp2_with fail
  go_loopg [27] ns.length (fun gk i wr => ∃ k : Nat, k ≤ ns.length ∧ gk = ns.length - k ∧ i = .int .i64 k ∧ wr.heap[w.heap.size]? = some (.cells ((midN ns k).map str).toArray 9) ∧ Below w.heap.size w wr)
  case atStart => exact ⟨0, Nat.zero_le _, rfl, rfl, S2.out.1, S2.out.2⟩
  case round =>
    obtain ⟨k, hk, hgk, rfl, hh, hbl⟩ := hrel
    have GK := hidI hgk
    have A : Hid (wr.heap[w.heap.size]? = some (.cells ((midN ns k).map str).toArray 9) ∧ Below w.heap.size w wr) := ⟨hh, hbl⟩
    clear hgk hh hbl
    by_cases hlt : k < ns.length
    · obtain ⟨c1, f1⟩ := strs_cell A.out.1 (mid_at hlt)
      have hnk : ns[k].length ≤ 2000 := NL.out _ (List.getElem_mem _)
      have HM1 := hidI (HM.out.bel A.out.2)
      go_wp2_with fail
      refine (unmarked_at _ ns[k] (by omega) (by exact HM1.out)).mono ?_
      rintro e w3 ⟨rfl, hb3⟩
      have hb3' : w3.heap[w.heap.size]? = some (.cells ((midN ns k).map str).toArray 9) := by
        have hlt2 : w.heap.size < wr.heap.size := (Array.getElem?_eq_some_iff.1 A.out.1).1
        rw [hb3.block _ hlt2]; exact A.out.1
      have B3 : Hid (w3.heap[w.heap.size]? = some (.cells ((midN ns k).map str).toArray 9) ∧ Below w.heap.size w w3) := ⟨hb3', bel_trans A.out.2 hb3⟩
      obtain ⟨c2, f2⟩ := strs_cell B3.out.1 (mid_at hlt)
      clear hb3 hb3' c1 f1
      unfold str
      go_wp2_with fail
      go_roundg (ns.length - (k + 1))
      case measure => rw [GK.out]; omega
      case rel =>
        refine ⟨k + 1, by omega, rfl, by go_num, ?_, ?_⟩
        · have := heap_set B3.out.1 k (.string ⟨(unmarkedL ns[k]).toArray⟩)
          rw [this]
          have e9 : ((midN ns k).map str).toArray.setIfInBounds k (.string ⟨(unmarkedL ns[k]).toArray⟩) = ((midN ns (k + 1)).map str).toArray := by
            rw [← mid_set hlt, List.map_set]
            simp [str]
          rw [e9]
        · exact gb_none (gb_setA (gb_below B3.out.2) (Nat.le_refl _) _ _)
    · have hke : k = ns.length := by omega
      subst hke
      have e3 : midN ns ns.length = ns.map unmarkedL := by simp [midN]
      go_wp2_with fail
      refine bodyPost_ret (v := .tuple #[.slice (some ⟨w.heap.size, 0, none⟩) ns.length ns.length, .int .i64 0]) (by simp [results, Tryz.results16, go_sem] <;> rfl) rfl ?_
      rw [HNS.out]
      refine ⟨some ⟨w.heap.size, 0, none⟩, ns.length, by rw [List.length_map], ⟨by rw [List.length_map]; unfold maxLen; omega, .inr ⟨w.heap.size, 0, ns.length, by rw [List.length_map], by rw [List.length_map]; exact Nat.le_refl _, by unfold maxLen; omega, ?_⟩⟩, A.out.2⟩
      intro i x hx
      have h9 := A.out.1
      rw [e3] at h9
      refine ⟨?_, Nat.le_refl _, ?_⟩
      · simp only [List.getElem?_map, Option.map_eq_some_iff] at hx
        obtain ⟨y, hy, rfl⟩ := hx
        have h1 := NL.out y (List.mem_of_getElem? hy)
        have h2 : (Lib.replaceAll y [126, 49] [47]).length ≤ y.length := repl_len (by simp) (by simp) (by simp) _ y (Nat.le_refl _)
        have h3 : (unmarkedL y).length ≤ (Lib.replaceAll y [126, 49] [47]).length := repl_len (by simp) (by simp) (by simp) _ _ (Nat.le_refl _)
        unfold maxLen; omega
      · have := (strs_cell h9 hx).1
        rw [Nat.zero_add]; exact this

set_option maxRecDepth 100000 in
set_option maxHeartbeats 4000000 in
theorem split_at_bad (w : World) (c : UInt8) (r : List UInt8) (hl : r.length + 1 ≤ 140737488351232) (hb : c ≠ 47 ∨ 2000 < (c :: r).length ∨ wholeP (c :: r) = false) :
    Calls Tryz.prog 16 #[str (c :: r)] w fun e w' => e = .returned (.tuple #[.slice none 0 0, .int .i64 1]) ∧ Below w.heap.size w w' := by
  unfold str
  have hne : (ByteArray.mk (c :: r).toArray == ByteArray.mk #[]) = false := ba_ne (by simp)
  have hsz : 0 < (ByteArray.mk (c :: r).toArray).size := by rw [ba_size]; simp
  have hget : (ByteArray.mk (c :: r).toArray)[0] = c := rfl
  have hbyte : (c.toNat : Int) < 256 := by have := c.toNat_lt; omega
  by_cases hc : c = 47
  · have n1 : ((c.toNat : Int) != 47) = false := by rw [hc]; rfl
    have q1 : ((c.toNat : Int) == 47) = true := by rw [hc]; rfl
    by_cases h2 : 2000 < r.length + 1
    · have e0 : 2000 < (r.length : Int) + 1 := by omega
      clear hc hb
      go_enter Tryz.func16, Tryz.ntmps16
      go_wp2_with fail
      refine bodyPost_ret (v := .tuple #[.slice none 0 0, .int .i64 1]) (by simp [results, Tryz.results16, go_sem] <;> rfl) rfl ?_
      exact ⟨rfl, Below.refl _ _⟩
    · have e0 : ¬ (2000 < (r.length : Int) + 1) := by omega
      have HW : Hid (wholeP (c :: r) = false) := hidI (by
        rcases hb with h | h | h
        · exact absurd hc h
        · simp only [List.length_cons] at h; omega
        · exact h)
      clear hc hb
      go_enter Tryz.func16, Tryz.ntmps16
      go_wp2_with fail
      refine (whole_at _ (c :: r) (by simp; omega)).mono ?_
      rintro e w1 ⟨rfl, hw1⟩
      rw [HW.out, hw1]
      clear hw1
      go_wp2_with fail
      refine bodyPost_ret (v := .tuple #[.slice none 0 0, .int .i64 1]) (by simp [results, Tryz.results16, go_sem] <;> rfl) rfl ?_
      exact ⟨rfl, Below.refl _ _⟩
  · have n1 : ((c.toNat : Int) != 47) = true := by
      have : c.toNat ≠ 47 := fun e => hc (UInt8.toNat_inj.1 e)
      simp only [bne_iff_ne, ne_eq]; omega
    have q1 : ((c.toNat : Int) == 47) = false := by
      have : c.toNat ≠ 47 := fun e => hc (UInt8.toNat_inj.1 e)
      rw [beq_eq_false_iff_ne]; omega
    clear hc hb
    go_enter Tryz.func16, Tryz.ntmps16
    go_wp2_with fail
    refine bodyPost_ret (v := .tuple #[.slice none 0 0, .int .i64 1]) (by simp [results, Tryz.results16, go_sem] <;> rfl) rfl ?_
    exact ⟨rfl, Below.refl _ _⟩

set_option maxRecDepth 100000 in
set_option maxHeartbeats 4000000 in
theorem split_at_nil (w : World) :
    Calls Tryz.prog 16 #[str []] w fun e w' => e = .returned (.tuple #[.slice none 0 0, .int .i64 0]) ∧ Below w.heap.size w w' := by
  unfold str
  have hne : (ByteArray.mk ([] : List UInt8).toArray == ByteArray.mk #[]) = true := ba_eq (by simp)
  go_enter Tryz.func16, Tryz.ntmps16
  go_wp2_with fail
  refine bodyPost_ret (v := .tuple #[.slice none 0 0, .int .i64 0]) (by simp [results, Tryz.results16, go_sem] <;> rfl) rfl ?_
  exact ⟨rfl, Below.refl _ _⟩

theorem split_all (w : World) (p : List UInt8) (hp : p.length ≤ 140737488351232) (hM : GlobM w) :
    Calls Tryz.prog 16 #[str p] w fun e w' => ∃ (b : List (List UInt8)) (ee : Int) (a : Option Addr) (cap : Nat), e = .returned (.tuple #[.slice a b.length cap, .int .i64 ee]) ∧ splitP p = (b, ee) ∧
      StrsAre w' (fun k => w.heap.size ≤ k) b (.slice a b.length cap) ∧ Below w.heap.size w w' := by
  cases p with
  | nil =>
    refine (split_at_nil w).mono ?_
    rintro e w' ⟨rfl, hb⟩
    exact ⟨[], 0, none, 0, rfl, rfl, ⟨by simp [maxLen], .inl ⟨rfl, none, rfl⟩⟩, hb⟩
  | cons c r =>
    by_cases h : c ≠ 47 ∨ 2000 < (c :: r).length ∨ wholeP (c :: r) = false
    · refine (split_at_bad w c r (by simpa using hp) h).mono ?_
      rintro e w' ⟨rfl, hb⟩
      refine ⟨[], 1, none, 0, rfl, ?_, ⟨by simp [maxLen], .inl ⟨rfl, none, rfl⟩⟩, hb⟩
      simp only [splitP]; rw [if_pos h]
    · have h' := h
      simp only [not_or, Decidable.not_not, Bool.not_eq_false] at h'
      refine (split_at_ok w c r h'.1 (by have := h'.2.1; simp only [List.length_cons] at this; omega) h'.2.2 hM).mono ?_
      rintro e w' ⟨a, cap, rfl, hs, hb⟩
      refine ⟨_, 0, a, cap, rfl, ?_, hs, hb⟩
      simp only [splitP]; rw [if_neg h]
theorem strs_cells {w : World} {ok : Nat → Prop} {xs : List (List UInt8)} {a : Option Addr} {n c k : Nat} (h : StrsAre w ok xs (.slice a n c)) (hk : k < xs.length) : ∃ b off, a = some ⟨b, off, none⟩ ∧ xs.length ≤ c ∧ c ≤ maxLen ∧ w.cell? ⟨b, off + k, none⟩ = some (.string ⟨xs[k].toArray⟩) := by
  rcases h.2 with ⟨e, _⟩ | ⟨b, off, c', e, h1, h2, hcs⟩
  · rw [e] at hk; simp at hk
  · simp only [Value.slice.injEq] at e
    obtain ⟨rfl, -, rfl⟩ := e
    exact ⟨b, off, rfl, h1, h2, (hcs k xs[k] (List.getElem?_eq_getElem hk)).2.2⟩
end Go.Proofs.YtmdemcjmcnfjmaaGreatDoor

/- What namesOf and standing of package owner do. -/
set_option linter.unusedSimpArgs false
set_option linter.unusedVariables false
namespace Go.Proofs.YtmdemcjmcnfjmaaGreatDoor
open Go.RowKit

set_option maxRecDepth 100000 in
set_option maxHeartbeats 4000000 in
theorem namesOf_at (w : World) (p : List UInt8) (hp : p.length ≤ 140737488351232) (hM : GlobM w) :
    Calls Tryz.prog 58 #[str p] w fun e w' => ∃ (a : Option Addr) (c : Nat), e = .returned (.slice a (namesP p).length c) ∧ StrsAre w' (fun k => w.heap.size ≤ k) (namesP p) (.slice a (namesP p).length c) ∧ Below w.heap.size w w' := by
  have HM := hidI hM
  clear hM
  go_enter Tryz.func58, Tryz.ntmps58
  go_wp2_with fail
  refine (split_all _ p hp (by exact HM.out)).mono ?_
  rintro e w1 ⟨ns, ee, na, nc, rfl, hsp, hns, hb1⟩
  have R : Hid (namesP p = ns) := hidI (by unfold namesP; rw [hsp])
  have K := hidI hns
  have B := hidI hb1
  clear hsp hns hb1
  go_wp2_with fail
  go_ret
  refine ⟨na, nc, ?_, ?_, B.out⟩
  · rw [R.out]; rfl
  · rw [R.out]; exact K.out

/- On the way: what stands there so far. -/
def StandI (w : World) (ok : Nat → Prop) (t : V) (ns : List (List UInt8)) (na : Option Addr) (nc k : Nat) (wr : World) : Prop :=
  ∃ (y : V) (a5 a6 : Option Addr) (c5 c6 : Nat), thr ns t = thr (ns.drop k) y ∧ BoxIs wr w.heap.size (.int .i64 y.kind) (.int .i64 y.n) (.string ⟨y.s.toArray⟩) (.slice a5 y.keys.length c5) (.slice a6 y.l.length c6) ∧ BoxIs wr (w.heap.size + 1) (.int .i64 0) (.int .i64 0) (.string ⟨#[]⟩) (.slice none 0 0) (.slice none 0 0) ∧ Below w.heap.size w wr ∧
    In wr (fun k => ok k ∧ k < w.heap.size) y (.agg #[.int .i64 y.kind, .int .i64 y.n, .string ⟨y.s.toArray⟩, .slice a5 y.keys.length c5, .slice a6 y.l.length c6]) ∧ StrsAre wr (fun k => w.heap.size + 2 ≤ k) ns (.slice na ns.length nc)

set_option maxRecDepth 100000 in
set_option maxHeartbeats 40000000 in
theorem standing_is (w : World) (ok : Nat → Prop) (t : V) (v : Value) (p : List UInt8) (h : In w ok t v) (hp : p.length ≤ 140737488351232) (hM : GlobM w) :
    Calls Tryz.prog 56 #[v, str p] w fun e w' => ∃ r, e = .returned (.tuple #[r, .bool (thr (namesP p) t).isSome]) ∧ Below w.heap.size w w' ∧ In w' ok ((thr (namesP p) t).getD zeroT) r := by
  have H := hidI h.low
  have HMM := hidI hM
  obtain ⟨l1, l2, l3⟩ := h.lens
  obtain ⟨a1, a2, c1, c2, rfl⟩ := h.form
  clear h hM
  go_enter Tryz.func56, Tryz.ntmps56
  go_wp2_with fail
  refine (namesOf_at _ p hp (by exact HMM.out.bel (bel_trans (bel_alloc _ _) (bel_alloc _ _)))).mono ?_
  rintro e w1 ⟨na, nc, rfl, hns, hb1⟩
  obtain ⟨ns, hnp⟩ : ∃ ns, namesP p = ns := ⟨_, rfl⟩
  rw [hnp] at hns ⊢
  have NP := hidI hnp
  clear hnp
  have nlen := hns.1
  unfold maxLen at nlen
  have S0 : Hid (StandI w ok t ns na nc 0 w1) := ⟨t, a1, a2, c1, c2, rfl, box_bel hb1 (h2a w _ _), box_bel hb1 (h2b w _ _), bel_trans (bel_trans (bel_alloc _ _) (bel_alloc _ _)) hb1, H.out.bel (bel_trans (bel_trans (bel_alloc _ _) (bel_alloc _ _)) hb1), hns.imp fun a x hx hc => ⟨by simpa using hx, hc⟩⟩
  clear hb1 hns
  go_wp2_with fail
  go_loopg [13] ns.length (fun gk i wr => ∃ k : Nat, k ≤ ns.length ∧ gk = ns.length - k ∧ i = .int .i64 k ∧ StandI w ok t ns na nc k wr)
  case atStart => exact ⟨0, Nat.zero_le _, rfl, rfl, S0.out⟩
  case round =>
    obtain ⟨k, hk, hgk, rfl, y, a5, a6, c5, c6, i1, i2, i3, i4, i5, i6⟩ := hrel
    have GK := hidI hgk
    have I : Hid (thr ns t = thr (ns.drop k) y ∧ BoxIs wr w.heap.size (.int .i64 y.kind) (.int .i64 y.n) (.string ⟨y.s.toArray⟩) (.slice a5 y.keys.length c5) (.slice a6 y.l.length c6) ∧ BoxIs wr (w.heap.size + 1) (.int .i64 0) (.int .i64 0) (.string ⟨#[]⟩) (.slice none 0 0) (.slice none 0 0) ∧ Below w.heap.size w wr ∧ In wr (fun k => ok k ∧ k < w.heap.size) y (.agg #[.int .i64 y.kind, .int .i64 y.n, .string ⟨y.s.toArray⟩, .slice a5 y.keys.length c5, .slice a6 y.l.length c6]) ∧ StrsAre wr (fun k => w.heap.size + 2 ≤ k) ns (.slice na ns.length nc)) := ⟨i1, i2, i3, i4, i5, i6⟩
    obtain ⟨p0, p1, p2, p3, p4, p5, p6, p7, p8, p9⟩ := i2.c
    clear hgk i1 i2 i3 i4 i5 i6
    by_cases hlt : k < ns.length
    · obtain ⟨nb, no, rfl, hc1, hc2, hc⟩ := strs_cells I.out.2.2.2.2.2 hlt
      unfold maxLen at hc2
      go_wp2_with fail
      refine (member_was _ (fun k => ok k ∧ k < w.heap.size) y _ ns[k] (by exact I.out.2.2.2.2.1)).mono ?_
      rintro e w3 ⟨r, rfl, hb3, hu⟩
      obtain ⟨u, hu9⟩ : ∃ u, (memV y ns[k]).getD zeroT = u := ⟨_, rfl⟩
      rw [hu9] at hu
      obtain ⟨b5, b6, d5, d6, rfl⟩ := hu.form
      have hbb := bel_trans hb3 (bel_alloc w3 (.cells #[.int .i64 u.kind, .int .i64 u.n, .string ⟨u.s.toArray⟩, .slice b5 u.keys.length d5, .slice b6 u.l.length d6] 25))
      have K3 : Hid (BoxIs (w3.alloc (.cells #[.int .i64 u.kind, .int .i64 u.n, .string ⟨u.s.toArray⟩, .slice b5 u.keys.length d5, .slice b6 u.l.length d6] 25)) w.heap.size (.int .i64 y.kind) (.int .i64 y.n) (.string ⟨y.s.toArray⟩) (.slice a5 y.keys.length c5) (.slice a6 y.l.length c6) ∧ BoxIs (w3.alloc (.cells #[.int .i64 u.kind, .int .i64 u.n, .string ⟨u.s.toArray⟩, .slice b5 u.keys.length d5, .slice b6 u.l.length d6] 25)) (w.heap.size + 1) (.int .i64 0) (.int .i64 0) (.string ⟨#[]⟩) (.slice none 0 0) (.slice none 0 0) ∧ Below w.heap.size w (w3.alloc (.cells #[.int .i64 u.kind, .int .i64 u.n, .string ⟨u.s.toArray⟩, .slice b5 u.keys.length d5, .slice b6 u.l.length d6] 25)) ∧ BoxIs (w3.alloc (.cells #[.int .i64 u.kind, .int .i64 u.n, .string ⟨u.s.toArray⟩, .slice b5 u.keys.length d5, .slice b6 u.l.length d6] 25)) w3.heap.size (.int .i64 u.kind) (.int .i64 u.n) (.string ⟨u.s.toArray⟩) (.slice b5 u.keys.length d5) (.slice b6 u.l.length d6) ∧ In (w3.alloc (.cells #[.int .i64 u.kind, .int .i64 u.n, .string ⟨u.s.toArray⟩, .slice b5 u.keys.length d5, .slice b6 u.l.length d6] 25)) (fun k => ok k ∧ k < w.heap.size) u (.agg #[.int .i64 u.kind, .int .i64 u.n, .string ⟨u.s.toArray⟩, .slice b5 u.keys.length d5, .slice b6 u.l.length d6]) ∧ StrsAre (w3.alloc (.cells #[.int .i64 u.kind, .int .i64 u.n, .string ⟨u.s.toArray⟩, .slice b5 u.keys.length d5, .slice b6 u.l.length d6] 25)) (fun k => w.heap.size + 2 ≤ k) ns (.slice (some ⟨nb, no, none⟩) ns.length nc)) := ⟨box_bel hbb I.out.2.1, box_bel hbb I.out.2.2.1, bel_trans I.out.2.2.2.1 hbb, heap_alloc_new w3 _, hu.bel (bel_alloc _ _), I.out.2.2.2.2.2.bel hbb⟩
      have GS : Hid (thr (ns.drop k) y = (memV y ns[k]).bind (thr (ns.drop (k + 1)))) := hidI (by rw [List.drop_eq_getElem_cons hlt, thr])
      clear hb3 hbb hu hc p0 p1 p2 p3 p4 p5 p6 p7 p8 p9
      obtain ⟨o0, o1, o2, o3, o4, o5, o6, o7, o8, o9⟩ := K3.out.1.c
      obtain ⟨q0, q1, q2, q3, q4, -⟩ := K3.out.2.2.2.1.c
      cases hm : memV y ns[k] with
      | none =>
        obtain ⟨x0, x1, x2, x3, x4, y0, y1, y2, y3, y4⟩ := (K3.out.2.1).c
        have Z := hidI (bel_set5 K3.out.2.2.1 (Nat.le_succ w.heap.size) (.int .i64 0) (.int .i64 0) (.string ⟨#[]⟩) (.slice none 0 0) (.slice none 0 0))
        have ZB := hidI ((K3.out.2.1).set (.int .i64 0) (.int .i64 0) (.string ⟨#[]⟩) (.slice none 0 0) (.slice none 0 0))
        have HA : Hid (thr ns t = none) := hidI (by rw [I.out.1, GS.out, hm]; rfl)
        clear hm hu9 o0 o1 o2 o3 o4 o5 o6 o7 o8 o9 q0 q1 q2 q3 q4
        rw [Option.isSome_none]
        go_wp2_with fail
        obtain ⟨z0, z1, z2, z3, z4, -⟩ := ZB.out.c
        refine bodyPost_ret (v := .tuple #[.agg #[.int .i64 0, .int .i64 0, .string ⟨#[]⟩, .slice none 0 0, .slice none 0 0], .bool false]) ?_ rfl ?_
        · simp only [set5] at z0 z1 z2 z3 z4
          simp [results, Tryz.results56, go_sem, z0, z1, z2, z3, z4]
        · refine ⟨_, by rw [NP.out, HA.out]; rfl, Z.out, ?_⟩
          rw [NP.out, HA.out]
          exact in_zero _ _
      | some z9 =>
        rw [hm, Option.getD_some] at hu9
        subst hu9
        have HM := hidI hm
        have FIN : Hid (StandI w ok t ns (some ⟨nb, no, none⟩) nc (k + 1) (set5 (w3.alloc (.cells #[.int .i64 z9.kind, .int .i64 z9.n, .string ⟨z9.s.toArray⟩, .slice b5 z9.keys.length d5, .slice b6 z9.l.length d6] 25)) w.heap.size (.int .i64 z9.kind) (.int .i64 z9.n) (.string ⟨z9.s.toArray⟩) (.slice b5 z9.keys.length d5) (.slice b6 z9.l.length d6))) := by
          have g1 := set5_gb (w3.alloc (.cells #[.int .i64 z9.kind, .int .i64 z9.n, .string ⟨z9.s.toArray⟩, .slice b5 z9.keys.length d5, .slice b6 z9.l.length d6] 25)) w.heap.size (.int .i64 z9.kind) (.int .i64 z9.n) (.string ⟨z9.s.toArray⟩) (.slice b5 z9.keys.length d5) (.slice b6 z9.l.length d6)
          refine ⟨z9, b5, b6, d5, d6, ?_, K3.out.1.set _ _ _ _ _, K3.out.2.1.grown g1 (by simp), bel_set5 K3.out.2.2.1 (Nat.le_refl _) _ _ _ _ _, K3.out.2.2.2.2.1.grown g1 (fun k hk => by omega), K3.out.2.2.2.2.2.imp (cells_grown g1 (fun k hk e => by cases e; omega))⟩
          rw [I.out.1, GS.out, HM.out]; rfl
        clear hm K3
        rw [Option.isSome_some]
        go_wp2_with fail
        go_roundg (ns.length - (k + 1))
        case measure => rw [GK.out]; omega
        case rel => exact ⟨k + 1, hlt, rfl, by go_num, FIN.out⟩
    · have hke : k = ns.length := by omega
      subst hke
      obtain ⟨x0, x1, x2, x3, x4, y0, y1, y2, y3, y4⟩ := I.out.2.2.1.c
      have Z := hidI (bel_set5 I.out.2.2.2.1 (Nat.le_succ w.heap.size) (.int .i64 y.kind) (.int .i64 y.n) (.string ⟨y.s.toArray⟩) (.slice a5 y.keys.length c5) (.slice a6 y.l.length c6))
      have ZI := hidI ((I.out.2.2.2.2.1.grown (set5_gb wr (w.heap.size + 1) (.int .i64 y.kind) (.int .i64 y.n) (.string ⟨y.s.toArray⟩) (.slice a5 y.keys.length c5) (.slice a6 y.l.length c6)) (fun k hk => by omega)).weak fun k hk => hk.1)
      have ZB := hidI (I.out.2.2.1.set (.int .i64 y.kind) (.int .i64 y.n) (.string ⟨y.s.toArray⟩) (.slice a5 y.keys.length c5) (.slice a6 y.l.length c6))
      have HA : Hid (thr ns t = some y) := hidI (by rw [I.out.1, List.drop_length]; rfl)
      go_wp2_with fail
      obtain ⟨z0, z1, z2, z3, z4, -⟩ := ZB.out.c
      refine bodyPost_ret (v := .tuple #[.agg #[.int .i64 y.kind, .int .i64 y.n, .string ⟨y.s.toArray⟩, .slice a5 y.keys.length c5, .slice a6 y.l.length c6], .bool true]) ?_ rfl ?_
      · simp only [set5] at z0 z1 z2 z3 z4
        simp [results, Tryz.results56, go_sem, z0, z1, z2, z3, z4]
      · refine ⟨_, by rw [NP.out, HA.out]; rfl, Z.out, ?_⟩
        rw [NP.out, HA.out]
        exact ZI.out
end Go.Proofs.YtmdemcjmcnfjmaaGreatDoor

/- What ContainsFunc of package slices does with texts, with owners. -/
set_option linter.unusedSimpArgs false
set_option linter.unusedVariables false
namespace Go.Proofs.YtmdemcjmcnfjmaaGreatDoor
open Go.RowKit

/- A function made on the spot that answers of each of a list, and leaves all as it was. -/
def PredS (w : World) (g : Nat) (lb : Array Value) (xs : List (List UInt8)) (p : List UInt8 → Bool) : Prop :=
  ∀ (W : World) (x : List UInt8), Below w.heap.size w W → x ∈ xs → Calls Tryz.prog g (#[.string ⟨x.toArray⟩] ++ lb) W fun e w' => e = .returned (.bool (p x)) ∧ Below W.heap.size W w'
theorem any_take {α : Type} {p : α → Bool} {xs : List α} {k : Nat} (hk : k < xs.length) (h : (xs.take k).any p = false) (h2 : p xs[k] = false) : (xs.take (k + 1)).any p = false := by
  rw [List.take_succ_eq_append_getElem hk, List.any_append, h]; simp [h2]
theorem any_here {α : Type} {p : α → Bool} {xs : List α} {k : Nat} (hk : k < xs.length) (h2 : p xs[k] = true) : xs.any p = true := by
  rw [List.any_eq_true]; exact ⟨xs[k], List.getElem_mem _, h2⟩

set_option maxRecDepth 100000 in
set_option maxHeartbeats 4000000 in
theorem findS_at (w : World) (ok : Nat → Prop) (xs : List (List UInt8)) (v : Value) (g : Nat) (lb : Array Value) (p : List UInt8 → Bool) (h : StrsAre w ok xs v) (eg : ∀ args w, (callFunc g args).run Tryz.prog w = .ok (.enter g args) w) (hp : PredS w g lb xs p) :
    Calls Tryz.prog 81 #[v, .func (.func g) #[] lb] w fun e w' => (∃ r : Int, e = .returned (.int .i64 r) ∧ (decide (0 ≤ r) = xs.any p)) ∧ Below w.heap.size w w' := by
  obtain ⟨a, c, rfl⟩ := h.form
  have H := hidI h
  have HP := hidI hp
  have ll := h.1
  unfold maxLen at ll
  clear h hp
  go_enter Tryz.func81, Tryz.ntmps81
  go_wp2_with fail
  go_loopg [5, 8] xs.length (fun gk _ i wr => ∃ k : Nat, k ≤ xs.length ∧ gk = xs.length - k ∧ i = .int .i64 k ∧ Hid ((xs.take k).any p = false) ∧ Hid (Below w.heap.size w wr))
  case atStart => exact ⟨0, Nat.zero_le _, rfl, rfl, rfl, Below.refl _ _⟩
  case round =>
    obtain ⟨k, hk, hgk, rfl, HA, BL⟩ := hrel
    have GK := hidI hgk
    clear hgk
    by_cases hlt : k < xs.length
    · obtain ⟨b, off, rfl, j1, j2, k1⟩ := strs_at H.out hlt
      unfold maxLen at j2
      have c1 := cell_bel BL.out k1
      have w2 : (k : Int) < (xs.length : Int) := by omega
      clear k1
      have CALL := HP.out wr xs[k] BL.out (List.getElem_mem _)
      have T0 : Hid (p xs[k] = false → (xs.take (k + 1)).any p = false) := hidI (fun h9 => any_take hlt HA.out h9)
      have T1 : Hid (p xs[k] = true → xs.any p = true) := hidI (fun h9 => any_here hlt h9)
      obtain ⟨o, ho⟩ : ∃ o, p xs[k] = o := ⟨_, rfl⟩
      rw [ho] at CALL T0 T1
      clear ho
      cases o with
      | false =>
        go_wp2_with (go_at_fn g; refine CALL.mono ?_; rintro e w1 ⟨rfl, hb⟩)
        go_roundg (xs.length - (k + 1))
        case measure => rw [GK.out]; omega
        case rel => exact ⟨k + 1, hlt, rfl, by go_num, hidI (T0.out (by simp)), hidI (bel_trans BL.out hb)⟩
      | true =>
        go_wp2_with (go_at_fn g; refine CALL.mono ?_; rintro e w1 ⟨rfl, hb⟩)
        go_ret
        refine ⟨⟨k, rfl, ?_⟩, bel_trans BL.out hb⟩
        rw [T1.out (by simp)]; simp
    · have d1 : ¬ (k : Int) < (xs.length : Int) := by omega
      have hke : k = xs.length := by omega
      have R : Hid (xs.any p = false) := hidI (by have := HA.out; rwa [hke, List.take_length] at this)
      clear hke
      go_wp2_with fail
      go_ret
      exact ⟨⟨-1, rfl, by rw [R.out]; rfl⟩, BL.out⟩
set_option maxRecDepth 100000 in
theorem containsS_at (w : World) (ok : Nat → Prop) (xs : List (List UInt8)) (v : Value) (g : Nat) (lb : Array Value) (p : List UInt8 → Bool) (h : StrsAre w ok xs v) (eg : ∀ args w, (callFunc g args).run Tryz.prog w = .ok (.enter g args) w) (hp : PredS w g lb xs p) :
    Calls Tryz.prog 53 #[v, .func (.func g) #[] lb] w fun e w' => e = .returned (.bool (xs.any p)) ∧ Below w.heap.size w w' := by
  obtain ⟨a, c, rfl⟩ := h.form
  have C := findS_at w ok xs _ g lb p h eg hp
  clear h hp
  go_enter Tryz.func53, Tryz.ntmps53
  go_wp2_with (go_at_call 81; refine C.mono ?_; rintro e w1 ⟨⟨r, rfl, hr⟩, hb⟩)
  go_ret
  exact ⟨by rw [← hr]; rfl, hb⟩
/- The same of owners. -/
def PredO (w : World) (ok : Nat → Prop) (g : Nat) (lb : Array Value) (xs : List Own) (p : Own → Bool) : Prop :=
  ∀ (W : World) (x : Own) (pa : Option Addr) (pc : Nat), Below w.heap.size w W → x ∈ xs → StrsAre W ok x.paths (.slice pa x.paths.length pc) → Calls Tryz.prog g (#[.agg #[.string ⟨x.name.toArray⟩, .slice pa x.paths.length pc]] ++ lb) W fun e w' => e = .returned (.bool (p x)) ∧ Below W.heap.size W w'
set_option maxRecDepth 100000 in
set_option maxHeartbeats 4000000 in
theorem findO_at (w : World) (ok : Nat → Prop) (xs : List Own) (v : Value) (g : Nat) (lb : Array Value) (p : Own → Bool) (h : OwnsAre w ok xs v) (eg : ∀ args w, (callFunc g args).run Tryz.prog w = .ok (.enter g args) w) (hp : PredO w ok g lb xs p) :
    Calls Tryz.prog 127 #[v, .func (.func g) #[] lb] w fun e w' => (∃ r : Int, e = .returned (.int .i64 r) ∧ (decide (0 ≤ r) = xs.any p)) ∧ Below w.heap.size w w' := by
  obtain ⟨a, c, rfl⟩ := h.form
  have H := hidI h
  have HP := hidI hp
  have ll := h.1
  unfold maxLen at ll
  clear h hp
  go_enter Tryz.func127, Tryz.ntmps127
  go_wp2_with fail
  go_loopg [5, 8] xs.length (fun gk _ i wr => ∃ k : Nat, k ≤ xs.length ∧ gk = xs.length - k ∧ i = .int .i64 k ∧ Hid ((xs.take k).any p = false) ∧ Hid (Below w.heap.size w wr))
  case atStart => exact ⟨0, Nat.zero_le _, rfl, rfl, rfl, Below.refl _ _⟩
  case round =>
    obtain ⟨k, hk, hgk, rfl, HA, BL⟩ := hrel
    have GK := hidI hgk
    clear hgk
    by_cases hlt : k < xs.length
    · obtain ⟨b, off, pa, pc, rfl, j1, j2, k1, k2, k3, k4⟩ := H.out.at hlt
      have c1 := cell_bel BL.out k1
      have c2 := cell_bel BL.out k2
      have w2 : (k : Int) < (xs.length : Int) := by omega
      have CALL := HP.out wr xs[k] pa pc BL.out (List.getElem_mem _) (k3.imp fun a x h1 h2 => ⟨h1, cell_bel BL.out h2⟩)
      clear k1 k2 k3
      have T0 : Hid (p xs[k] = false → (xs.take (k + 1)).any p = false) := hidI (fun h9 => any_take hlt HA.out h9)
      have T1 : Hid (p xs[k] = true → xs.any p = true) := hidI (fun h9 => any_here hlt h9)
      obtain ⟨o, ho⟩ : ∃ o, p xs[k] = o := ⟨_, rfl⟩
      rw [ho] at CALL T0 T1
      clear ho
      cases o with
      | false =>
        go_wp2_with (go_at_fn g; refine CALL.mono ?_; rintro e w1 ⟨rfl, hb⟩)
        go_roundg (xs.length - (k + 1))
        case measure => rw [GK.out]; omega
        case rel => exact ⟨k + 1, hlt, rfl, by go_num, hidI (T0.out (by simp)), hidI (bel_trans BL.out hb)⟩
      | true =>
        go_wp2_with (go_at_fn g; refine CALL.mono ?_; rintro e w1 ⟨rfl, hb⟩)
        go_ret
        refine ⟨⟨k, rfl, ?_⟩, bel_trans BL.out hb⟩
        rw [T1.out (by simp)]; simp
    · have d1 : ¬ (k : Int) < (xs.length : Int) := by omega
      have hke : k = xs.length := by omega
      have R : Hid (xs.any p = false) := hidI (by have := HA.out; rwa [hke, List.take_length] at this)
      clear hke
      go_wp2_with fail
      go_ret
      exact ⟨⟨-1, rfl, by rw [R.out]; rfl⟩, BL.out⟩
set_option maxRecDepth 100000 in
theorem containsO_at (w : World) (ok : Nat → Prop) (xs : List Own) (v : Value) (g : Nat) (lb : Array Value) (p : Own → Bool) (h : OwnsAre w ok xs v) (eg : ∀ args w, (callFunc g args).run Tryz.prog w = .ok (.enter g args) w) (hp : PredO w ok g lb xs p) :
    Calls Tryz.prog 84 #[v, .func (.func g) #[] lb] w fun e w' => e = .returned (.bool (xs.any p)) ∧ Below w.heap.size w w' := by
  obtain ⟨a, c, rfl⟩ := h.form
  have C := findO_at w ok xs _ g lb p h eg hp
  clear h hp
  go_enter Tryz.func84, Tryz.ntmps84
  go_wp2_with (go_at_call 127; refine C.mono ?_; rintro e w1 ⟨⟨r, rfl, hr⟩, hb⟩)
  go_ret
  exact ⟨by rw [← hr]; rfl, hb⟩
end Go.Proofs.YtmdemcjmcnfjmaaGreatDoor

/- What BinarySearchFunc of package slices does with texts that rise, with owners; find of package owner. -/
set_option linter.unusedSimpArgs false
set_option linter.unusedVariables false
namespace Go.Proofs.YtmdemcjmcnfjmaaGreatDoor
open Go.RowKit

theorem cmp_lt : ∀ (a b : List UInt8), Lib.compareBytes a b < 0 ↔ Op.bytesLess a b = true
  | [], [] => by simp [Lib.compareBytes, Op.bytesLess]
  | [], _ :: _ => by simp [Lib.compareBytes, Op.bytesLess]
  | _ :: _, [] => by simp [Lib.compareBytes, Op.bytesLess]
  | x :: a, y :: b => by
    have ih := cmp_lt a b
    simp only [Lib.compareBytes, Op.bytesLess, Bool.or_eq_true, Bool.and_eq_true, decide_eq_true_eq, beq_iff_eq]
    by_cases h1 : x < y
    · simp [h1]
    · by_cases h2 : y < x
      · have : x ≠ y := fun e => by subst e; exact h1 h2
        simp [h1, h2, this]
      · have : x = y := by
          rw [UInt8.lt_iff_toNat_lt] at h1 h2
          exact UInt8.toNat_inj.1 (by omega)
        simp [h1, h2, this, ih]
theorem cmp_eq0 : ∀ (a b : List UInt8), Lib.compareBytes a b = 0 ↔ a = b
  | [], [] => by simp [Lib.compareBytes]
  | [], _ :: _ => by simp [Lib.compareBytes]
  | _ :: _, [] => by simp [Lib.compareBytes]
  | x :: a, y :: b => by
    have ih := cmp_eq0 a b
    simp only [Lib.compareBytes, List.cons.injEq]
    by_cases h1 : x < y
    · have : x ≠ y := fun e => by subst e; exact UInt8.lt_irrefl _ h1
      simp [h1, this]
    · by_cases h2 : y < x
      · have : x ≠ y := fun e => by subst e; exact h1 h2
        simp [h1, h2, this]
      · have : x = y := by
          rw [UInt8.lt_iff_toNat_lt] at h1 h2
          exact UInt8.toNat_inj.1 (by omega)
        simp [h1, h2, this, ih]
/- So far: what is ahead of lo is less, what is not ahead of hi is not. -/
def SrchI (ks : List (List UInt8)) (p : List UInt8) (lo hi : Nat) : Prop := (∀ t x, t < lo → ks[t]? = some x → Op.bytesLess x p = true) ∧ (∀ t x, hi ≤ t → ks[t]? = some x → Op.bytesLess x p = false)
theorem srch_up {ks : List (List UInt8)} {p : List UInt8} {lo hi m : Nat} (hr : Rises ks) (h : SrchI ks p lo hi) (hm : m < ks.length) (hl : Op.bytesLess ks[m] p = true) : SrchI ks p (m + 1) hi := by
  refine ⟨fun t x ht hx => ?_, h.2⟩
  by_cases e : t = m
  · subst e; rw [List.getElem?_eq_getElem hm] at hx; cases hx; exact hl
  · obtain ⟨ht2, rfl⟩ := List.getElem?_eq_some_iff.1 hx
    exact less_trans _ _ _ (List.pairwise_iff_getElem.1 hr t m ht2 hm (by omega)) hl
theorem srch_down {ks : List (List UInt8)} {p : List UInt8} {lo hi m : Nat} (hr : Rises ks) (h : SrchI ks p lo hi) (hm : m < ks.length) (hl : Op.bytesLess ks[m] p = false) : SrchI ks p lo m := by
  refine ⟨h.1, fun t x ht hx => ?_⟩
  by_cases e : t = m
  · subst e; rw [List.getElem?_eq_getElem hm] at hx; cases hx; exact hl
  · obtain ⟨ht2, rfl⟩ := List.getElem?_eq_some_iff.1 hx
    cases h9 : Op.bytesLess ks[t] p with
    | false => rfl
    | true =>
      have := less_trans _ _ _ (List.pairwise_iff_getElem.1 hr m t hm ht2 (by omega)) h9
      rw [hl] at this; cases this
theorem srch_count : ∀ (ks : List (List UInt8)) (p : List UInt8) (i : Nat), i ≤ ks.length → SrchI ks p i i → ks.countP (fun x => Op.bytesLess x p) = i
  | [], p, i, hi, _ => by simp at hi; simp [hi]
  | a :: r, p, 0, _, h => by
    rw [List.countP_eq_zero]
    intro x hx
    obtain ⟨t, ht, rfl⟩ := List.getElem_of_mem hx
    rw [h.2 t _ (Nat.zero_le _) (List.getElem?_eq_getElem ht)]; simp
  | a :: r, p, i + 1, hi, h => by
    rw [List.countP_cons_of_pos (p := fun x => Op.bytesLess x p) (h.1 0 a (by omega) rfl), srch_count r p i (by simpa using hi) ⟨fun t x ht hx => h.1 (t + 1) x (by omega) (by simpa using hx), fun t x ht hx => h.2 (t + 1) x (by omega) (by simpa using hx)⟩]
theorem srch_has {ks : List (List UInt8)} {p : List UInt8} {i : Nat} (h : SrchI ks p i i) (hi : i < ks.length) (hr : Rises ks) : ks.contains p = decide (ks[i] = p) := by
  rw [Bool.eq_iff_iff, List.contains_iff_mem, decide_eq_true_eq]
  constructor
  · intro hm
    obtain ⟨t, ht, e⟩ := List.getElem_of_mem hm
    have h1 : i ≤ t := by
      apply Classical.byContradiction
      intro h9
      have := h.1 t _ (by omega) (List.getElem?_eq_getElem ht)
      rw [e, less_irrefl] at this; cases this
    by_cases e2 : t = i
    · subst e2; exact e
    · have h3 := List.pairwise_iff_getElem.1 hr i t hi ht (by omega)
      rw [e, h.2 i _ (Nat.le_refl _) (List.getElem?_eq_getElem hi)] at h3; cases h3
  · intro e; rw [← e]; exact List.getElem_mem _
theorem srch_none {ks : List (List UInt8)} {p : List UInt8} {i : Nat} (h : SrchI ks p i i) (hi : ks.length ≤ i) : ks.contains p = false := by
  rw [Bool.eq_false_iff]
  intro hm
  rw [List.contains_iff_mem] at hm
  obtain ⟨t, ht, e⟩ := List.getElem_of_mem hm
  have := h.1 t _ (by omega) (List.getElem?_eq_getElem ht)
  rw [e, less_irrefl] at this; cases this

set_option maxRecDepth 100000 in
set_option maxHeartbeats 4000000 in
theorem searchS_at (w : World) (ok : Nat → Prop) (xs : List (List UInt8)) (v : Value) (p : List UInt8) (h : StrsAre w ok xs v) (hr : Rises xs) (hn : xs.length < 4611686018427387904) :
    Calls Tryz.prog 80 #[v, .string ⟨p.toArray⟩, .func (.func 34) #[] #[]] w fun e w' => e = .returned (.tuple #[.int .i64 (xs.countP (fun x => Op.bytesLess x p) : Nat), .bool (xs.contains p)]) ∧ Below w.heap.size w w' := by
  obtain ⟨a, c, rfl⟩ := h.form
  have H := hidI h
  have HR := hidI hr
  clear h hr
  go_enter Tryz.func80, Tryz.ntmps80
  go_wp2_with fail
  go_loopg [9, 10] xs.length (fun kx s9 s10 wr => ∃ lo hi : Nat, s9 = .int .i64 lo ∧ s10 = .int .i64 hi ∧ lo ≤ hi ∧ hi ≤ xs.length ∧ hi - lo ≤ kx ∧ Hid (SrchI xs p lo hi) ∧ Hid (Below w.heap.size w wr))
  case atStart => exact ⟨0, xs.length, rfl, rfl, Nat.zero_le _, Nat.le_refl _, by omega, hidI ⟨fun t x ht => absurd ht (Nat.not_lt_zero _), fun t x ht hx => by rw [List.getElem?_eq_none ht] at hx; cases hx⟩, Below.refl _ _⟩
  case round =>
    obtain ⟨lo, hi, rfl, rfl, hlh, hin, hg, I, BL⟩ := hrel
    by_cases hlt : lo < hi
    · have hm : (lo + hi) / 2 < xs.length := by omega
      obtain ⟨b, off, rfl, j1, j2, k1⟩ := strs_at H.out hm
      unfold maxLen at j2
      have c1 := cell_bel BL.out k1
      clear k1
      have UP : Hid (Lib.compareBytes xs[(lo + hi) / 2] p < 0 → SrchI xs p ((lo + hi) / 2 + 1) hi) := hidI (fun h9 => srch_up HR.out I.out hm ((cmp_lt _ _).1 h9))
      have DN : Hid (¬ Lib.compareBytes xs[(lo + hi) / 2] p < 0 → SrchI xs p lo ((lo + hi) / 2)) := hidI (fun h9 => srch_down HR.out I.out hm (by rw [Bool.eq_false_iff]; exact fun h8 => h9 ((cmp_lt _ _).2 h8)))
      have CALL := Tryz.strCompare ⟨xs[(lo + hi) / 2].toArray⟩ ⟨p.toArray⟩ wr
      simp only [List.toList_toArray] at CALL
      obtain ⟨r, hr⟩ : ∃ r, Lib.compareBytes xs[(lo + hi) / 2] p = r := ⟨_, rfl⟩
      rw [hr] at CALL UP DN
      clear hr
      by_cases hyx : r < 0
      · go_wp2_with (go_at_call 34; refine CALL.mono ?_; rintro e w' ⟨rfl, hw1⟩; have hw2 := hw1.symm; subst hw2; clear hw1)
        go_roundg (hi - ((lo + hi) / 2 + 1))
        case measure => omega
        case rel => exact ⟨(lo + hi) / 2 + 1, hi, by rw [show ((lo : Int) + (hi : Int)) / 2 + 1 = (((lo + hi) / 2 + 1 : Nat) : Int) by omega], rfl, by omega, hin, Nat.le_refl _, hidI (UP.out hyx), BL⟩
      · go_wp2_with (go_at_call 34; refine CALL.mono ?_; rintro e w' ⟨rfl, hw1⟩; have hw2 := hw1.symm; subst hw2; clear hw1)
        go_roundg ((lo + hi) / 2 - lo)
        case measure => omega
        case rel => exact ⟨lo, (lo + hi) / 2, rfl, by rw [show ((lo : Int) + (hi : Int)) / 2 = (((lo + hi) / 2 : Nat) : Int) by omega], by omega, by omega, Nat.le_refl _, hidI (DN.out hyx), BL⟩
    · obtain rfl : hi = lo := by omega
      have CN := hidI (srch_count xs p hi hin I.out)
      by_cases hn : hi < xs.length
      · obtain ⟨b, off, rfl, j1, j2, k1⟩ := strs_at H.out hn
        unfold maxLen at j2
        have c1 := cell_bel BL.out k1
        clear k1
        have HS := hidI (srch_has I.out hn HR.out)
        have E0 : Hid (Lib.compareBytes xs[hi] p = 0 ↔ xs[hi] = p) := hidI (cmp_eq0 _ _)
        have CALL := Tryz.strCompare ⟨xs[hi].toArray⟩ ⟨p.toArray⟩ wr
        simp only [List.toList_toArray] at CALL
        obtain ⟨r, hr⟩ : ∃ r, Lib.compareBytes xs[hi] p = r := ⟨_, rfl⟩
        rw [hr] at CALL E0
        clear hr
        by_cases hyx : r = 0
        · have R : Hid (xs.contains p = true) := hidI (by rw [HS.out]; exact decide_eq_true (E0.out.1 hyx))
          subst hyx
          go_wp2_with (go_at_call 34; refine CALL.mono ?_; rintro e w' ⟨rfl, hw1⟩; have hw2 := hw1.symm; subst hw2; clear hw1)
          go_ret2
          exact ⟨by rw [R.out, CN.out]; first | done | rfl | simp, BL.out⟩
        · have R : Hid (xs.contains p = false) := hidI (by rw [HS.out]; exact decide_eq_false (fun h9 => hyx (E0.out.2 h9)))
          have e9 : (r == 0) = false := by rw [beq_eq_false_iff_ne]; exact hyx
          clear hyx
          go_wp2_with (go_at_call 34; refine CALL.mono ?_; rintro e w' ⟨rfl, hw1⟩; have hw2 := hw1.symm; subst hw2; clear hw1)
          go_ret2
          exact ⟨by rw [R.out, CN.out]; first | done | rfl | simp, BL.out⟩
      · have R := hidI (srch_none I.out (by omega))
        go_wp2_with fail
        go_ret2
        exact ⟨by rw [R.out, CN.out]; first | done | rfl | simp, BL.out⟩

set_option maxRecDepth 100000 in
theorem cmpOwner_at (w : World) (n p : List UInt8) (v : Value) :
    Calls Tryz.prog 89 #[.agg #[.string ⟨n.toArray⟩, v], .string ⟨p.toArray⟩] w fun e w' => e = .returned (.int .i64 (Lib.compareBytes n p)) ∧ Below w.heap.size w w' := by
  have CALL : Hid (∀ W, Calls Tryz.prog 34 #[.string ⟨n.toArray⟩, .string ⟨p.toArray⟩] W fun e w' => e = .returned (.int .i64 (Lib.compareBytes n p)) ∧ w' = W) := hidI (fun W => by
    have := Tryz.strCompare ⟨n.toArray⟩ ⟨p.toArray⟩ W
    simpa only [List.toList_toArray] using this)
  obtain ⟨r, hr⟩ : ∃ r, Lib.compareBytes n p = r := ⟨_, rfl⟩
  rw [hr] at CALL ⊢
  clear hr
  go_enter Tryz.func89, Tryz.ntmps89
  go_wp2_with (go_at_call 34; refine (CALL.out _).mono ?_; rintro e w' ⟨rfl, hw1⟩; have hw2 := hw1.symm; subst hw2; clear hw1)
  go_ret
  exact ⟨rfl, bel_alloc _ _⟩

set_option maxRecDepth 100000 in
set_option maxHeartbeats 4000000 in
theorem searchO_at (w : World) (ok : Nat → Prop) (xs : List Own) (v : Value) (p : List UInt8) (h : OwnsAre w ok xs v) (hr : Rises (xs.map Own.name)) (hn : xs.length < 4611686018427387904) :
    Calls Tryz.prog 88 #[v, .string ⟨p.toArray⟩, .func (.func 89) #[] #[]] w fun e w' => e = .returned (.tuple #[.int .i64 (placeO xs p : Nat), .bool ((xs.map Own.name).contains p)]) ∧ Below w.heap.size w w' := by
  obtain ⟨a, c, rfl⟩ := h.form
  have H := hidI h
  have HR := hidI hr
  have LM : (xs.map Own.name).length = xs.length := List.length_map _
  have PL : Hid (placeO xs p = (xs.map Own.name).countP (fun x => Op.bytesLess x p)) := hidI (by unfold placeO; rw [List.countP_map]; rfl)
  have LMH := hidI LM
  clear h hr LM
  go_enter Tryz.func88, Tryz.ntmps88
  go_wp2_with fail
  go_loopg [9, 10] xs.length (fun kx s9 s10 wr => ∃ lo hi : Nat, s9 = .int .i64 lo ∧ s10 = .int .i64 hi ∧ lo ≤ hi ∧ hi ≤ xs.length ∧ hi - lo ≤ kx ∧ Hid (SrchI (xs.map Own.name) p lo hi) ∧ Hid (Below w.heap.size w wr))
  case atStart => exact ⟨0, xs.length, rfl, rfl, Nat.zero_le _, Nat.le_refl _, by omega, hidI ⟨fun t x ht => absurd ht (Nat.not_lt_zero _), fun t x ht hx => by rw [List.getElem?_eq_none (by rw [LMH.out]; exact ht)] at hx; cases hx⟩, Below.refl _ _⟩
  case round =>
    obtain ⟨lo, hi, rfl, rfl, hlh, hin, hg, I, BL⟩ := hrel
    by_cases hlt : lo < hi
    · have hm : (lo + hi) / 2 < xs.length := by omega
      obtain ⟨b, off, pa, pc, rfl, j1, j2, k1, k2, -, -⟩ := H.out.at hm
      have c1 := cell_bel BL.out k1
      have c2 := cell_bel BL.out k2
      clear k1 k2
      have UP : Hid (Lib.compareBytes xs[(lo + hi) / 2].name p < 0 → SrchI (xs.map Own.name) p ((lo + hi) / 2 + 1) hi) := hidI (fun h9 => srch_up HR.out I.out (by rw [LMH.out]; exact hm) (by rw [List.getElem_map]; exact (cmp_lt _ _).1 h9))
      have DN : Hid (¬ Lib.compareBytes xs[(lo + hi) / 2].name p < 0 → SrchI (xs.map Own.name) p lo ((lo + hi) / 2)) := hidI (fun h9 => srch_down HR.out I.out (by rw [LMH.out]; exact hm) (by rw [List.getElem_map, Bool.eq_false_iff]; exact fun h8 => h9 ((cmp_lt _ _).2 h8)))
      have CALL : Hid (∀ W, Calls Tryz.prog 89 #[.agg #[.string ⟨xs[(lo + hi) / 2].name.toArray⟩, .slice pa xs[(lo + hi) / 2].paths.length pc], .string ⟨p.toArray⟩] W fun e w' => e = .returned (.int .i64 (Lib.compareBytes xs[(lo + hi) / 2].name p)) ∧ Below W.heap.size W w') := hidI (fun W => cmpOwner_at W _ p _)
      obtain ⟨r, hr⟩ : ∃ r, Lib.compareBytes xs[(lo + hi) / 2].name p = r := ⟨_, rfl⟩
      rw [hr] at CALL UP DN
      clear hr
      by_cases hyx : r < 0
      · go_wp2_with (go_at_call 89; refine (CALL.out _).mono ?_; rintro e w' ⟨rfl, hb⟩)
        go_roundg (hi - ((lo + hi) / 2 + 1))
        case measure => omega
        case rel => exact ⟨(lo + hi) / 2 + 1, hi, by rw [show ((lo : Int) + (hi : Int)) / 2 + 1 = (((lo + hi) / 2 + 1 : Nat) : Int) by omega], rfl, by omega, hin, Nat.le_refl _, hidI (UP.out hyx), hidI (bel_trans BL.out hb)⟩
      · go_wp2_with (go_at_call 89; refine (CALL.out _).mono ?_; rintro e w' ⟨rfl, hb⟩)
        go_roundg ((lo + hi) / 2 - lo)
        case measure => omega
        case rel => exact ⟨lo, (lo + hi) / 2, rfl, by rw [show ((lo : Int) + (hi : Int)) / 2 = (((lo + hi) / 2 : Nat) : Int) by omega], by omega, by omega, Nat.le_refl _, hidI (DN.out hyx), hidI (bel_trans BL.out hb)⟩
    · obtain rfl : hi = lo := by omega
      have CN : Hid (placeO xs p = hi) := hidI (by rw [PL.out]; exact srch_count _ p hi (by rw [LMH.out]; exact hin) I.out)
      by_cases hn : hi < xs.length
      · obtain ⟨b, off, pa, pc, rfl, j1, j2, k1, k2, -, -⟩ := H.out.at hn
        have c1 := cell_bel BL.out k1
        have c2 := cell_bel BL.out k2
        clear k1 k2
        have HS : Hid ((xs.map Own.name).contains p = decide (xs[hi].name = p)) := hidI (by have := srch_has I.out (by rw [LMH.out]; exact hn) HR.out; rwa [List.getElem_map] at this)
        have E0 : Hid (Lib.compareBytes xs[hi].name p = 0 ↔ xs[hi].name = p) := hidI (cmp_eq0 _ _)
        have CALL : Hid (∀ W, Calls Tryz.prog 89 #[.agg #[.string ⟨xs[hi].name.toArray⟩, .slice pa xs[hi].paths.length pc], .string ⟨p.toArray⟩] W fun e w' => e = .returned (.int .i64 (Lib.compareBytes xs[hi].name p)) ∧ Below W.heap.size W w') := hidI (fun W => cmpOwner_at W _ p _)
        obtain ⟨r, hr⟩ : ∃ r, Lib.compareBytes xs[hi].name p = r := ⟨_, rfl⟩
        rw [hr] at CALL E0
        clear hr
        by_cases hyx : r = 0
        · have R : Hid ((xs.map Own.name).contains p = true) := hidI (by rw [HS.out]; exact decide_eq_true (E0.out.1 hyx))
          subst hyx
          go_wp2_with (go_at_call 89; refine (CALL.out _).mono ?_; rintro e w' ⟨rfl, hb⟩)
          go_ret2
          exact ⟨by rw [R.out, CN.out]; first | done | rfl | simp, bel_trans BL.out hb⟩
        · have R : Hid ((xs.map Own.name).contains p = false) := hidI (by rw [HS.out]; exact decide_eq_false (fun h9 => hyx (E0.out.2 h9)))
          have e9 : (r == 0) = false := by rw [beq_eq_false_iff_ne]; exact hyx
          clear hyx
          go_wp2_with (go_at_call 89; refine (CALL.out _).mono ?_; rintro e w' ⟨rfl, hb⟩)
          go_ret2
          exact ⟨by rw [R.out, CN.out]; first | done | rfl | simp, bel_trans BL.out hb⟩
      · have R : Hid ((xs.map Own.name).contains p = false) := hidI (srch_none I.out (by rw [LMH.out]; omega))
        go_wp2_with fail
        go_ret2
        exact ⟨by rw [R.out, CN.out]; first | done | rfl | simp, BL.out⟩
set_option maxRecDepth 100000 in
theorem find_owner (w : World) (ok : Nat → Prop) (xs : List Own) (v : Value) (p : List UInt8) (h : OwnsAre w ok xs v) (hr : Rises (xs.map Own.name)) (hn : xs.length < 4611686018427387904) :
    Calls Tryz.prog 61 #[v, .string ⟨p.toArray⟩] w fun e w' => e = .returned (.tuple #[.int .i64 (placeO xs p : Nat), .bool ((xs.map Own.name).contains p)]) ∧ Below w.heap.size w w' := by
  have C := searchO_at w ok xs v p h hr hn
  obtain ⟨a, c, rfl⟩ := h.form
  generalize (xs.map Own.name).contains p = o at C ⊢
  clear h hr
  go_enter Tryz.func61, Tryz.ntmps61
  go_wp2_with (go_at_call 88; refine C.mono ?_; rintro e w1 ⟨rfl, hb⟩)
  go_ret2
  exact ⟨rfl, hb⟩
end Go.Proofs.YtmdemcjmcnfjmaaGreatDoor

/- What holds of Apply, plainly. -/
set_option linter.unusedSimpArgs false
set_option linter.unusedVariables false
namespace Go.Proofs.YtmdemcjmcnfjmaaGreatDoor
open Go.RowKit
open Go.Lib (index count replaceK replaceAll split splitK)

theorem thr_get : ∀ (ns : List (List UInt8)) (v y : V), thr ns v = some y → getV ns v = some y
  | [], v, y, h => h
  | n :: ns, v, y, h => by
    obtain ⟨hk, z, hm, hz⟩ := thr_kind h
    unfold getV meantV
    rw [hk, if_neg (by decide), hm]
    exact thr_get ns z y hz
theorem laidAll_eq (want : V) (L : List (List UInt8)) (v : V) : laidAllF want L v = layAll want (L.map namesP) v := by
  unfold laidAllF layAll
  rw [List.foldl_map]
/- Whose paths stay. -/
def keepN (L : List (List UInt8)) (others : List Own) (ns : List (List UInt8)) : Bool := L.contains (joinP ns) || concF others (joinP ns)
theorem cleared_eq (L : List (List UInt8)) (others : List Own) : ∀ (had : List (List UInt8)) (v : V), (∀ p ∈ had, gpB p = true) → clearedF L others had v = clearF (keepN L others) (had.map namesP) v
  | [], v, _ => rfl
  | p :: had, v, h => by
    have e1 : clearedF L others (p :: had) v = clearedF L others had (if (thr (namesP p) v).isSome && !(L.contains p || concF others p) then outF (namesP p) v else v) := rfl
    have e2 : clearF (keepN L others) ((p :: had).map namesP) v = clearF (keepN L others) (had.map namesP) (if (thr (namesP p) v).isSome && !keepN L others (namesP p) then outF (namesP p) v else v) := rfl
    have e3 : keepN L others (namesP p) = (L.contains p || concF others p) := by unfold keepN; rw [(gp_names (h p (by simp))).2.2]
    rw [e1, e2, e3]
    exact cleared_eq L others had _ fun q hq => h q (by simp [hq])
theorem good_own {l : List Own} (h : goodOs l = true) : l.length ≤ 6 ∧ (∀ o ∈ l, namedB o.name = true ∧ gpsB o.paths = true) ∧ Rises (l.map Own.name) := by
  unfold goodOs at h
  rw [Bool.and_eq_true, Bool.and_eq_true, decide_eq_true_eq, List.all_eq_true, rises_iff] at h
  exact ⟨h.1.1, fun o ho => by have := h.1.2 o ho; unfold ownB at this; rwa [Bool.and_eq_true] at this, h.2⟩
theorem own_good {l : List Own} (h1 : l.length ≤ 6) (h2 : ∀ o ∈ l, namedB o.name = true ∧ gpsB o.paths = true) (h3 : Rises (l.map Own.name)) : goodOs l = true := by
  unfold goodOs
  rw [Bool.and_eq_true, Bool.and_eq_true, decide_eq_true_eq, List.all_eq_true, rises_iff]
  exact ⟨⟨h1, fun o ho => by unfold ownB; rw [Bool.and_eq_true]; exact h2 o ho⟩, h3⟩
theorem gps_parts {l : List (List UInt8)} (h : gpsB l = true) : l ≠ [] ∧ (∀ p ∈ l, gpB p = true) ∧ Rises l := by
  unfold gpsB at h
  rw [Bool.and_eq_true, Bool.and_eq_true, List.all_eq_true, rises_iff] at h
  exact ⟨fun e => by rw [e] at h; simp at h, h.1.2, h.2⟩
theorem gps_of {l : List (List UInt8)} (h1 : l ≠ []) (h2 : ∀ p ∈ l, gpB p = true) (h3 : Rises l) : gpsB l = true := by
  unfold gpsB
  rw [Bool.and_eq_true, Bool.and_eq_true, List.all_eq_true, rises_iff]
  exact ⟨⟨by cases l with | nil => exact absurd rfl h1 | cons a r => rfl, h2⟩, h3⟩
theorem rises_sub {a b : List (List UInt8)} (h : a.Sublist b) (hb : Rises b) : Rises a := List.Pairwise.sublist h hb
theorem kept_in {stays : List UInt8 → List UInt8 → Bool} {l : List Own} {o : Own} (h : o ∈ keptF stays l) : ∃ x ∈ l, o = ⟨x.name, x.paths.filter (stays x.name)⟩ ∧ o.paths ≠ [] := by
  unfold keptF at h
  rw [List.mem_filter, List.mem_map] at h
  obtain ⟨⟨x, hx, rfl⟩, h⟩ := h
  exact ⟨x, hx, rfl, fun e => by simp only at e; simp [e] at h⟩
theorem kept_names (stays : List UInt8 → List UInt8 → Bool) (l : List Own) : ((keptF stays l).map Own.name).Sublist (l.map Own.name) := by
  unfold keptF
  have h := (List.filter_sublist (p := fun o : Own => !o.paths.isEmpty) (l := l.map fun o => (⟨o.name, o.paths.filter (stays o.name)⟩ : Own))).map Own.name
  rwa [List.map_map] at h
theorem kept_good {stays : List UInt8 → List UInt8 → Bool} {l : List Own} (h : goodOs l = true) : (∀ o ∈ keptF stays l, namedB o.name = true ∧ gpsB o.paths = true) ∧ Rises ((keptF stays l).map Own.name) := by
  obtain ⟨-, h2, h3⟩ := good_own h
  refine ⟨fun o ho => ?_, rises_sub (kept_names stays l) h3⟩
  obtain ⟨x, hx, rfl, hne⟩ := kept_in ho
  obtain ⟨h4, h5⟩ := h2 x hx
  obtain ⟨-, h6, h7⟩ := gps_parts h5
  exact ⟨h4, gps_of hne (fun p hp => h6 p (List.mem_filter.1 hp).1) (rises_sub List.filter_sublist h7)⟩
/- One more among owners. -/
theorem count_split : ∀ (l : List Own) (n : List UInt8), Rises (l.map Own.name) → (∀ o ∈ l.take (placeO l n), Op.bytesLess o.name n = true) ∧ (∀ o ∈ l.drop (placeO l n), Op.bytesLess o.name n = false)
  | [], n, _ => by simp
  | o :: l, n, h => by
    unfold Rises at h
    rw [List.map_cons, List.pairwise_cons] at h
    obtain ⟨h1, h2⟩ := count_split l n h.2
    cases e : Op.bytesLess o.name n with
    | true =>
      have ec : placeO (o :: l) n = placeO l n + 1 := by unfold placeO; rw [List.countP_cons_of_pos (by exact e)]
      rw [ec, List.take_succ_cons, List.drop_succ_cons]
      refine ⟨fun x hx => ?_, h2⟩
      rcases List.mem_cons.1 hx with rfl | hx
      · exact e
      · exact h1 x hx
    | false =>
      have hz : placeO (o :: l) n = 0 := by
        unfold placeO
        rw [List.countP_eq_zero]
        intro x hx h9
        rcases List.mem_cons.1 hx with rfl | hx
        · rw [e] at h9; cases h9
        · have := less_trans _ _ _ (h.1 x.name (List.mem_map.2 ⟨x, hx, rfl⟩)) h9
          rw [e] at this; cases this
      rw [hz, List.take_zero, List.drop_zero]
      refine ⟨fun x hx => (by cases hx), fun x hx => ?_⟩
      rcases List.mem_cons.1 hx with rfl | hx
      · exact e
      · cases e9 : Op.bytesLess x.name n with
        | false => rfl
        | true =>
          have := less_trans _ _ _ (h.1 x.name (List.mem_map.2 ⟨x, hx, rfl⟩)) e9
          rw [e] at this; cases this
theorem with_rises {l : List Own} {o : Own} (h : Rises (l.map Own.name)) (hn : ∀ x ∈ l, x.name ≠ o.name) : Rises ((withOwnF l o).map Own.name) := by
  unfold withOwnF
  split
  · exact h
  · obtain ⟨h1, h2⟩ := count_split l o.name h
    have hl : l = l.take (placeO l o.name) ++ l.drop (placeO l o.name) := (List.take_append_drop _ _).symm
    unfold Rises at h ⊢
    rw [hl, List.map_append, List.pairwise_append] at h
    rw [List.map_append, List.map_cons, List.pairwise_append, List.pairwise_cons]
    obtain ⟨g1, g2, g3⟩ := h
    have hle : ∀ b ∈ (l.drop (placeO l o.name)).map Own.name, Op.bytesLess o.name b = true := by
      intro b hb
      obtain ⟨x, hx, rfl⟩ := List.mem_map.1 hb
      exact less_total _ _ (h2 x hx) (hn x (List.mem_of_mem_drop hx))
    refine ⟨g1, ⟨hle, g2⟩, ?_⟩
    intro a ha b hb
    rcases List.mem_cons.1 hb with rfl | hb
    · obtain ⟨x, hx, rfl⟩ := List.mem_map.1 ha; exact h1 x hx
    · exact g3 a ha b hb
theorem with_mem {l : List Own} {o x : Own} : x ∈ withOwnF l o ↔ x ∈ l ∨ o.paths ≠ [] ∧ x = o := by
  unfold withOwnF
  split
  · rename_i h; simp [h]
  · rename_i h
    rw [List.mem_append, List.mem_cons]
    conv => rhs; rw [← List.take_append_drop (placeO l o.name) l, List.mem_append]
    constructor
    · rintro (h1 | h1 | h1)
      · exact .inl (.inl h1)
      · exact .inr ⟨h, h1⟩
      · exact .inl (.inr h1)
    · rintro ((h1 | h1) | ⟨-, h1⟩)
      · exact .inl h1
      · exact .inr (.inr h1)
      · exact .inr (.inl h1)
theorem rises_inj {l : List Own} (h : Rises (l.map Own.name)) {x y : Own} (hx : x ∈ l) (hy : y ∈ l) (e : x.name = y.name) : x = y := by
  induction l with
  | nil => cases hx
  | cons o l ih =>
    unfold Rises at h
    rw [List.map_cons, List.pairwise_cons] at h
    have no : ∀ z ∈ l, o.name ≠ z.name := fun z hz e9 => by
      have := h.1 z.name (List.mem_map.2 ⟨z, hz, rfl⟩); rw [e9, less_irrefl] at this; cases this
    rcases List.mem_cons.1 hx with hx1 | hx1 <;> rcases List.mem_cons.1 hy with hy1 | hy1
    · rw [hx1, hy1]
    · rw [hx1] at e; exact absurd e (no y hy1)
    · rw [hy1] at e; exact absurd e.symm (no x hx1)
    · exact ih h.2 hx1 hy1
theorem paths_of {l : List Own} (h : Rises (l.map Own.name)) {o : Own} (ho : o ∈ l) : pathsOfF l o.name = o.paths := by
  unfold pathsOfF
  cases e : l.find? (fun x => x.name == o.name) with
  | none =>
    rw [List.find?_eq_none] at e
    exact absurd (e o ho) (by simp)
  | some y =>
    have h1 := List.mem_of_find?_eq_some e
    have h2 := List.find?_some e
    rw [beq_iff_eq] at h2
    rw [rises_inj h h1 ho h2]
theorem paths_none {l : List Own} {who : List UInt8} (h : ∀ o ∈ l, o.name ≠ who) : pathsOfF l who = [] := by
  unfold pathsOfF
  cases e : l.find? (fun x => x.name == who) with
  | none => rfl
  | some y =>
    have h2 := List.find?_some e
    rw [beq_iff_eq] at h2
    exact absurd h2 (h y (List.mem_of_find?_eq_some e))
theorem paths_good {l : List Own} (h : goodOs l = true) (who : List UInt8) : ∀ p ∈ pathsOfF l who, gpB p = true := by
  intro p hp
  unfold pathsOfF at hp
  cases e : l.find? (fun x => x.name == who) with
  | none => rw [e] at hp; cases hp
  | some y =>
    rw [e] at hp
    exact (gps_parts ((good_own h).2.1 y (List.mem_of_find?_eq_some e)).2).2.1 p hp
/- What Apply has to do with. -/
structure ApOk (v : V) (l : List Own) (who : List UInt8) (want : V) : Prop where
  vk : v.kind = 5
  vg : goodV v = true
  wk : want.kind = 5
  wg : goodV want = true
  lg : goodOs l = true
  whog : namedB who = true
theorem others_names {v want : V} {l : List Own} {who : List UInt8} : ∀ o ∈ othersF v want l who, o.name ≠ who := by
  intro o ho e
  obtain ⟨x, hx, rfl, hne⟩ := kept_in ho
  apply hne
  simp only at e ⊢
  rw [List.filter_eq_nil_iff]
  intro p _
  simp [e]
theorem result_eq {v : V} {l : List Own} {who : List UInt8} {want : V} (h : ApOk v l who want) :
    resultF v want l who = layAll want ((leavesF want).map namesP) (clearF (keepN (leavesF want) (othersF v want l who)) ((pathsOfF l who).map namesP) v) := by
  unfold resultF
  rw [laidAll_eq, cleared_eq _ _ _ _ (paths_good h.lg who)]
theorem ApOk.cleared {v : V} {l : List Own} {who : List UInt8} {want : V} (h : ApOk v l who want) (keep : List (List UInt8) → Bool) :
    Obs (clearF keep ((pathsOfF l who).map namesP) v) ∧ (clearF keep ((pathsOfF l who).map namesP) v).kind = 5 :=
  clear_obs _ _ (fun p hp => by obtain ⟨q, hq, rfl⟩ := List.mem_map.1 hp; exact (gp_names (paths_good h.lg who q hq)).2.1) (obs_good h.vg) h.vk
theorem ApOk.lv {v : V} {l : List Own} {who : List UInt8} {want : V} (h : ApOk v l who want) : LeavesOk want (leavesF want) := leaves_ok h.wk h.wg
theorem ApOk.leaf {v : V} {l : List Own} {who : List UInt8} {want : V} (h : ApOk v l who want) {ns : List (List UInt8)} (hn : ns ∈ (leavesF want).map namesP) : ∃ x, thr ns want = some x ∧ LeafV x :=
  lvs_thr 12 want ns ((goodV_tree h.wg).ho) h.wk ((h.lv.names ns).1 hn)
/- What is wanted stands there. -/
theorem ApOk.at {v : V} {l : List Own} {who : List UInt8} {want : V} (h : ApOk v l who want) {ns : List (List UInt8)} (hn : ns ∈ (leavesF want).map namesP) :
    ∃ y, thr ns (resultF v want l who) = some y ∧ (y = (thr ns want).getD zeroT ∨ y.kind = 5 ∧ ((thr ns want).getD zeroT).kind = 5) := by
  rw [result_eq h, layAll_at (obs_good h.wg) _ _ h.lv.apart (h.cleared _).1 hn]
  refine ⟨_, rfl, ?_⟩
  split
  · rename_i hc; exact .inr hc
  · exact .inl rfl
theorem other_no {want v : V} {p : List UInt8} {y : V} (h : thr (namesP p) v = some y) (hy : y = (thr (namesP p) want).getD zeroT ∨ y.kind = 5 ∧ ((thr (namesP p) want).getD zeroT).kind = 5) : otherF want v p = false := by
  unfold otherF
  rw [h]
  simp only
  rcases hy with hy | hy
  · simp [hy]
  · rw [decide_eq_true hy.1, decide_eq_true hy.2]; simp
theorem other_not {want v : V} {p : List UInt8} (h : otherF want v p = false) : ∃ y, thr (namesP p) v = some y ∧ (y = (thr (namesP p) want).getD zeroT ∨ y.kind = 5 ∧ ((thr (namesP p) want).getD zeroT).kind = 5) := by
  unfold otherF at h
  cases e : thr (namesP p) v with
  | none => rw [e] at h; cases h
  | some y =>
    rw [e] at h
    simp only [Bool.and_eq_false_iff, Bool.not_eq_false', Bool.and_eq_true, decide_eq_true_eq] at h
    exact ⟨y, rfl, h⟩
theorem found_none {blk : List UInt8 → Bool} {who : List UInt8} {l : List Own} : foundF blk who l = [] ↔ ∀ o ∈ l, o.name ≠ who → ∀ p ∈ o.paths, blk p = false := by
  unfold foundF
  rw [List.flatMap_eq_nil_iff]
  constructor
  · intro h o ho hne p hp
    have := h o ho
    rw [List.map_eq_nil_iff, List.filter_eq_nil_iff] at this
    have := this p hp
    simpa [hne] using this
  · intro h o ho
    rw [List.map_eq_nil_iff, List.filter_eq_nil_iff]
    intro p hp
    by_cases hne : o.name = who
    · simp [hne]
    · simp [h o ho hne p hp]
/- Applied once more. -/
theorem kept_same {stays : List UInt8 → List UInt8 → Bool} : ∀ (l : List Own), (∀ o ∈ l, o.paths ≠ [] ∧ ∀ p ∈ o.paths, stays o.name p = true) → keptF stays l = l
  | [], _ => rfl
  | o :: l, h => by
    have ih := kept_same l fun x hx => h x (by simp [hx])
    obtain ⟨h1, h2⟩ := h o (by simp)
    unfold keptF at ih ⊢
    rw [List.map_cons]
    have e : o.paths.filter (stays o.name) = o.paths := List.filter_eq_self.2 h2
    rw [e, List.filter_cons_of_pos (by cases hp : o.paths with | nil => exact absurd hp h1 | cons a r => rfl), ih]
theorem kept_append (stays : List UInt8 → List UInt8 → Bool) (a b : List Own) : keptF stays (a ++ b) = keptF stays a ++ keptF stays b := by simp [keptF]
theorem kept_gone {stays : List UInt8 → List UInt8 → Bool} {o : Own} (h : ∀ p ∈ o.paths, stays o.name p = false) (l : List Own) : keptF stays (o :: l) = keptF stays l := by
  unfold keptF
  rw [List.map_cons]
  have e : o.paths.filter (stays o.name) = [] := List.filter_eq_nil_iff.2 fun p hp => by rw [h p hp]; simp
  rw [e, List.filter_cons_of_neg (by simp)]
theorem kept_with {stays : List UInt8 → List UInt8 → Bool} {l : List Own} {o : Own} (h : ∀ x ∈ l, x.paths ≠ [] ∧ ∀ p ∈ x.paths, stays x.name p = true) (ho : ∀ p ∈ o.paths, stays o.name p = false) : keptF stays (withOwnF l o) = l := by
  unfold withOwnF
  split
  · exact kept_same l h
  · rw [kept_append, kept_gone ho, ← kept_append, List.take_append_drop, kept_same l h]
theorem apply_ok {v : V} {l : List Own} {who : List UInt8} {want : V} {force : Bool} {w : V} {m : List Own} {c : List (List UInt8 × List UInt8)} (h : applyF v l who want force = (w, m, c, 0)) :
    ApOk v l who want ∧ w = resultF v want l who ∧ m = withOwnF (othersF v want l who) ⟨who, leavesF want⟩ ∧ c = [] ∧ goodV w = true ∧ m.length ≤ 6 ∧ (force = false → foundF (blockedF want v (leavesF want)) who l = []) := by
  unfold applyF at h
  split at h
  · rename_i h1
    split at h
    · simp at h
    · rename_i h2
      split at h
      · rename_i h3
        simp only [Prod.mk.injEq] at h
        obtain ⟨rfl, rfl, rfl, -⟩ := h
        refine ⟨⟨h1.1.1, h1.1.2, h1.2.1.1, h1.2.1.2, h1.2.2.1, h1.2.2.2⟩, rfl, rfl, rfl, h3.1, h3.2, fun hf => ?_⟩
        apply Classical.byContradiction
        intro h9
        exact h2 ⟨h9, hf⟩
      · simp at h
  · simp at h
theorem apply_err {v : V} {l : List Own} {who : List UInt8} {want : V} {force : Bool} (h : (applyF v l who want force).2.2.2 ≠ 0) :
    (applyF v l who want force).1 = v ∧ (applyF v l who want force).2.1 = l ∧ ((applyF v l who want force).2.2.2 = 5 ↔ (applyF v l who want force).2.2.1 ≠ []) ∧ (force = true → (applyF v l who want force).2.2.2 ≠ 5) := by
  unfold applyF at h ⊢
  split
  · split
    · rename_i h2
      exact ⟨rfl, rfl, by simp [h2.1], fun hf => by rw [h2.2] at hf; cases hf⟩
    · split
      · rename_i h1 h2 h3
        rw [if_pos h1, if_neg h2, if_pos h3] at h
        exact absurd rfl h
      · exact ⟨rfl, rfl, by simp, fun _ => by simp⟩
  · exact ⟨rfl, rfl, by simp, fun _ => by simp⟩
theorem apply_good {v : V} {l : List Own} {who : List UInt8} {want : V} {force : Bool} {w : V} {m : List Own} {c : List (List UInt8 × List UInt8)} (h : applyF v l who want force = (w, m, c, 0)) :
    goodOs m = true ∧ pathsOfF m who = leavesF want ∧ w.kind = 5 := by
  obtain ⟨A, hw, hm, -, hg, h6, -⟩ := apply_ok h
  obtain ⟨k1, k2⟩ := kept_good (stays := fun n p => n != who && !blockedF want v (leavesF want) p) A.lg
  have hr : Rises (m.map Own.name) := by rw [hm]; exact with_rises k2 others_names
  refine ⟨own_good h6 (fun o ho => ?_) hr, ?_, ?_⟩
  · rw [hm, with_mem] at ho
    rcases ho with ho | ⟨h1, rfl⟩
    · exact k1 o ho
    · exact ⟨A.whog, gps_of h1 A.lv.good A.lv.rises⟩
  · by_cases he : leavesF want = []
    · rw [he]
      refine paths_none fun o ho => ?_
      rw [hm, with_mem] at ho
      rcases ho with ho | ⟨h1, -⟩
      · exact others_names o ho
      · exact absurd he h1
    · have hin : (⟨who, leavesF want⟩ : Own) ∈ m := by rw [hm, with_mem]; exact .inr ⟨he, rfl⟩
      exact paths_of hr hin
  · rw [hw, result_eq A]
    exact (layAll_obs (obs_good A.wg) _ _ (fun a ha => lvs_ne ((A.lv.names a).1 ha)) (A.cleared _).1 (A.cleared _).2).2
theorem apply_again {v : V} {l : List Own} {who : List UInt8} {want : V} {force : Bool} {w : V} {m : List Own} {c : List (List UInt8 × List UInt8)} (h : applyF v l who want force = (w, m, c, 0)) :
    applyF w m who want false = (w, m, [], 0) := by
  obtain ⟨A, hw, hm, -, hg, h6, -⟩ := apply_ok h
  obtain ⟨gm, pm, kw⟩ := apply_good h
  have B : ApOk w m who want := ⟨kw, hg, A.wk, A.wg, gm, A.whog⟩
  have hat : ∀ p ∈ leavesF want, ∃ y, thr (namesP p) w = some y ∧ (y = (thr (namesP p) want).getD zeroT ∨ y.kind = 5 ∧ ((thr (namesP p) want).getD zeroT).kind = 5) := by
    intro p hp
    rw [hw]
    exact A.at (List.mem_map.2 ⟨p, hp, rfl⟩)
  have hblk : ∀ p, blockedF want v (leavesF want) p = false → blockedF want w (leavesF want) p = false := by
    intro p hp
    unfold blockedF at hp ⊢
    split
    · rename_i hc
      obtain ⟨y, h1, h2⟩ := hat p (by simpa using hc)
      exact other_no h1 h2
    · rename_i hc
      rwa [if_neg hc] at hp
  have hst : ∀ o ∈ othersF v want l who, o.paths ≠ [] ∧ ∀ p ∈ o.paths, (o.name != who && !blockedF want w (leavesF want) p) = true := by
    intro o ho
    have hn := others_names o ho
    obtain ⟨x, hx, rfl, hne⟩ := kept_in ho
    refine ⟨hne, fun p hp => ?_⟩
    have h9 := (List.mem_filter.1 hp).2
    rw [Bool.and_eq_true] at h9
    rw [Bool.and_eq_true]
    refine ⟨h9.1, ?_⟩
    rw [hblk p (by simpa using h9.2)]; rfl
  have ho : othersF w want m who = othersF v want l who := by
    conv => lhs; unfold othersF; rw [hm]
    exact kept_with hst fun p _ => by simp
  have hf : foundF (blockedF want w (leavesF want)) who m = [] := by
    rw [found_none]
    intro o h1 h2 p hp
    rw [hm, with_mem] at h1
    rcases h1 with h1 | ⟨-, rfl⟩
    · have := (hst o h1).2 p hp
      rw [Bool.and_eq_true] at this
      simpa using this.2
    · exact absurd rfl h2
  have hres : resultF w want m who = w := by
    rw [result_eq B, pm]
    rw [clear_none _ _ (fun p hp => by
      obtain ⟨q, hq, rfl⟩ := List.mem_map.1 hp
      unfold keepN
      rw [(gp_names (A.lv.good q hq)).2.2]
      simp [hq])]
    exact layAll_same _ _ (obs_good hg) fun b hb => by
      obtain ⟨q, hq, rfl⟩ := List.mem_map.1 hb
      exact hat q hq
  unfold applyF
  rw [if_pos ⟨⟨kw, hg⟩, ⟨A.wk, A.wg⟩, gm, A.whog⟩, if_neg (fun h9 => h9.1 hf), hres, ho, ← hm, if_pos ⟨hg, h6⟩]
/- Each leaf is there. -/
theorem apply_leaf {v : V} {l : List Own} {who : List UInt8} {want : V} {force : Bool} {w : V} {m : List Own} {c : List (List UInt8 × List UInt8)} (h : applyF v l who want force = (w, m, c, 0)) {p : List UInt8} (hp : p ∈ leavesF want) :
    ∃ x y, getR (splitP p) want = (x, 0) ∧ getR (splitP p) w = (y, 0) ∧ (x = y ∨ x.kind = 5 ∧ y.kind = 5) := by
  obtain ⟨A, hw, hm, -, hg, h6, -⟩ := apply_ok h
  have hin : namesP p ∈ (leavesF want).map namesP := List.mem_map.2 ⟨p, hp, rfl⟩
  obtain ⟨x, hx, -⟩ := A.leaf hin
  obtain ⟨y, h1, h2⟩ := A.at hin
  rw [← hw] at h1
  rw [hx, Option.getD_some] at h2
  have hs := (gp_names (A.lv.good p hp)).1
  refine ⟨x, y, ?_, ?_, ?_⟩
  · rw [hs]; exact get_ok rfl A.wg (thr_get _ _ _ hx)
  · rw [hs]; exact get_ok rfl hg (thr_get _ _ _ h1)
  · rcases h2 with h2 | h2
    · exact .inl h2.symm
    · exact .inr ⟨h2.2, h2.1⟩
/- Others lose nothing without force. -/
end Go.Proofs.YtmdemcjmcnfjmaaGreatDoor

/- Lists of values that wait, in a row of the call's own. -/
set_option linter.unusedSimpArgs false
set_option linter.unusedVariables false
namespace Go.Proofs.YtmdemcjmcnfjmaaGreatDoor
open Go.RowKit

theorem own_belK {w w' : World} {B : Nat} {e : TypeId} {size : Nat} {v : Value} {n : Nat} {xs : List Value} (h : w.ownsRow B e size v n xs) (hb : Below w.heap.size w w') : w'.ownsRow B e size v n xs := h.kept (gb_below (r := none) hb) (by cases v.ownBlock <;> simp)
/- What waits: a list for each cell. -/
def StackIn (w : World) (ok : Nat → Prop) (ls : List (List V)) (cs : List Value) : Prop := cs.length = ls.length ∧ ∀ (j : Nat) (l : List V) (c : Value), ls[j]? = some l → cs[j]? = some c → ValsIn w ok l c
theorem StackIn.imp {w w' : World} {ok : Nat → Prop} {ls : List (List V)} {cs : List Value} (h : StackIn w ok ls cs) (hi : ∀ l c, ValsIn w ok l c → ValsIn w' ok l c) : StackIn w' ok ls cs :=
  ⟨h.1, fun j l c h1 h2 => hi l c (h.2 j l c h1 h2)⟩
theorem StackIn.push {w : World} {ok : Nat → Prop} {ls : List (List V)} {cs : List Value} (h : StackIn w ok ls cs) {l : List V} {c : Value} (hl : ValsIn w ok l c) : StackIn w ok (ls ++ [l]) (cs ++ [c]) := by
  refine ⟨by simp [h.1], fun j l' c' h1 h2 => ?_⟩
  by_cases hj : j < ls.length
  · rw [List.getElem?_append_left hj] at h1
    rw [List.getElem?_append_left (by rw [h.1]; exact hj)] at h2
    exact h.2 j l' c' h1 h2
  · have : j < (ls ++ [l]).length := (List.getElem?_eq_some_iff.1 h1).1
    simp only [List.length_append, List.length_cons, List.length_nil] at this
    have e : j = ls.length := by omega
    subst e
    rw [List.getElem?_append_right (by omega)] at h1
    rw [List.getElem?_append_right (by rw [h.1]; omega)] at h2
    simp only [Nat.sub_self, List.getElem?_cons_zero, Option.some.injEq] at h1
    rw [h.1] at h2
    simp only [Nat.sub_self, List.getElem?_cons_zero, Option.some.injEq] at h2
    rw [← h1, ← h2]; exact hl
theorem StackIn.pop {w : World} {ok : Nat → Prop} {ls : List (List V)} {l : List V} {cs : List Value} (h : StackIn w ok (ls ++ [l]) cs) : ∃ ds c, cs = ds ++ [c] ∧ StackIn w ok ls ds ∧ ValsIn w ok l c := by
  have hl : cs.length = ls.length + 1 := by simpa using h.1
  obtain ⟨ds, c, rfl⟩ : ∃ ds c, cs = ds ++ [c] := ⟨cs.dropLast, cs.getLast (by intro e; rw [e] at hl; simp at hl), (List.dropLast_concat_getLast _).symm⟩
  have hd : ds.length = ls.length := by simpa using hl
  refine ⟨ds, c, rfl, ⟨hd, fun j l' c' h1 h2 => ?_⟩, ?_⟩
  · have h3 := (List.getElem?_eq_some_iff.1 h1).1
    exact h.2 j l' c' (by rw [List.getElem?_append_left h3]; exact h1) (by rw [List.getElem?_append_left (by omega)]; exact h2)
  · exact h.2 ls.length l c (by simp) (by rw [← hd]; simp)
def Wait (w : World) (B : Nat) (ok : Nat → Prop) (ls : List (List V)) (g cap : Nat) : Prop :=
  ∃ cs, w.ownsRow B 23 1 (.slice (some ⟨g, 0, none⟩) ls.length cap) ls.length cs ∧ StackIn w ok ls cs ∧ ∀ k, ok k → k ≠ g
theorem Wait.lt {w : World} {B : Nat} {ok : Nat → Prop} {ls : List (List V)} {g cap : Nat} (h : Wait w B ok ls g cap) : B ≤ g ∧ g < w.heap.size := by
  obtain ⟨cs, h, -, -⟩ := h
  rcases h.2 with ⟨e, _⟩ | ⟨g', cap', cur, e, h1, h2, _⟩
  · cases e
  · cases e
    exact ⟨h1, (Array.getElem?_eq_some_iff.1 h2).1⟩
theorem Wait.cap {w : World} {B : Nat} {ok : Nat → Prop} {ls : List (List V)} {g cap : Nat} (h : Wait w B ok ls g cap) : ls.length ≤ cap ∧ cap ≤ 9223372036854775807 := by
  obtain ⟨cs, h, -, -⟩ := h
  rcases h.2 with ⟨e, _⟩ | ⟨g', cap', cur, e, h1, h2, h3, h4, _⟩
  · cases e
  · cases e
    exact ⟨h3, h4⟩
theorem Wait.bel {w w' : World} {B : Nat} {ok : Nat → Prop} {ls : List (List V)} {g cap : Nat} (h : Wait w B ok ls g cap) (hb : Below w.heap.size w w') : Wait w' B ok ls g cap := by
  obtain ⟨cs, h1, h2, h3⟩ := h
  exact ⟨cs, own_belK h1 hb, h2.imp fun _ _ h => h.bel hb, h3⟩
theorem Wait.far {w w' : World} {B : Nat} {ok : Nat → Prop} {ls : List (List V)} {g cap g' : Nat} (h : Wait w B ok ls g cap) (hg : w.grownBy w' (some g')) (hne : g ≠ g') (hok : ∀ k, ok k → k ≠ g') : Wait w' B ok ls g cap := by
  obtain ⟨cs, h1, h2, h3⟩ := h
  exact ⟨cs, h1.kept hg (by simp [Value.ownBlock, hne]), h2.imp fun _ _ h => h.grown hg hok, h3⟩
/- The last one, and the others. -/
theorem Wait.pop {w : World} {B : Nat} {ok : Nat → Prop} {ls : List (List V)} {l : List V} {g cap : Nat} (h : Wait w B ok (ls ++ [l]) g cap) : ∃ c, w.cell? ⟨g, ls.length, none⟩ = some c ∧ ValsIn w ok l c ∧ Wait w B ok ls g cap := by
  obtain ⟨cs, h1, h2, h3⟩ := h
  obtain ⟨ds, c, rfl, h4, h5⟩ := h2.pop
  rcases h1.2 with ⟨e, _⟩ | ⟨g', cap', cur, e, q1, q2, q3, q4, q5, q6⟩
  · cases e
  · cases e
    have hl : ds.length = ls.length := h4.1
    simp only [List.length_append, List.length_cons, List.length_nil, Nat.mul_one] at q3 q6
    refine ⟨c, ?_, h5, ds, ⟨by simp [hl], .inr ⟨g, cap, cur, rfl, q1, q2, by omega, q4, q5, ?_⟩⟩, h4, h3⟩
    · have : cur.toList[ls.length]? = some c := by
        have e9 : (cur.toList.take (ls.length + (0 + 1)))[ls.length]? = (ds ++ [c])[ls.length]? := by rw [q6]
        rw [List.getElem?_take_of_lt (by omega)] at e9
        rw [e9, ← hl]; simp
      simp only [World.cell?, q2]
      simpa using this
    · have := congrArg (List.take ls.length) q6
      rw [List.take_take, Nat.min_eq_left (by omega), List.take_append_of_le_length (by omega), List.take_of_length_le (show ds.length ≤ ls.length by omega)] at this
      simpa using this
theorem info23 : (Tryz.prog.info? 23).map (fun i => (i.zero, i.size, i.bytes)) = some (some (.slice none 0 0), 1, 24) := by kernel_rfl
/- One more waits. -/
theorem run_push {w : World} {B : Nat} {ok : Nat → Prop} {ls : List (List V)} {g cap nb : Nat} {l : List V} {c : Value} (hW : Wait w B ok ls g cap) (hnb : w.heap[nb]? = some (.cells #[c] 23)) (hv : ValsIn w ok l c) (hn : ls.length ≤ 5000000000000) (hlow : ∀ k, ok k → k < w.heap.size) (ty : TypeId) :
    ∃ g' cap' w', (Builtin.append_ #[99, 99] ty #[.slice (some ⟨g, 0, none⟩) ls.length cap, .slice (some ⟨nb, 0, none⟩) 1 1]).run Tryz.prog w = .ok (.slice (some ⟨g', 0, none⟩) (ls.length + 1) cap') w' ∧ Wait w' B ok (ls ++ [l]) g' cap' ∧ w.grownBy w' (some g) ∧ (g' = g ∨ w.heap.size = g') := by
  obtain ⟨i0, hi, hz0, hz1, hz2⟩ := info_parts info23
  have hgl := hW.lt
  obtain ⟨cs, h1, h2, h3⟩ := hW
  obtain ⟨a9, c9, rfl⟩ := hv.form
  obtain ⟨g', cap', w', hr, ho, hg, hat, hlt⟩ := run_append_lies (P := Tryz.prog) w 99 ty B 23 i0 _ 1 24 Tryz.underlying99 hi hz0 hz1 hz2 rfl (by decide) _ ls.length cs h1 ⟨nb, 0, none⟩ 1 1 [.slice a9 l.length c9] rfl
    (World.news_of_block (cs := #[.slice a9 l.length c9]) hnb) (by intro u hu; simp only [List.mem_cons, List.not_mem_nil, or_false] at hu; subst hu; rfl) (by decide) (by unfold maxLen; omega) (by omega) (by omega) w.heap.size rfl
  have hgb : w.grownBy w' (some g) := by simpa [Value.ownBlock] using hg
  refine ⟨g', cap', w', hr, ⟨cs ++ [.slice a9 l.length c9], by simpa using ho, (h2.imp fun _ _ h => h.grown hgb h3).push (hv.grown hgb h3), ?_⟩, hgb, ?_⟩
  · intro k hk
    rcases hat with hat | hat
    · simp only [Value.ownBlock, Option.some.injEq] at hat
      rw [← hat]; exact h3 k hk
    · have := hlow k hk; omega
  · rcases hat with hat | hat
    · simp only [Value.ownBlock, Option.some.injEq] at hat
      exact .inl hat.symm
    · exact .inr hat.symm
theorem wp_push {w : World} {o : Oper} {a : Act} {K : Act → World → Prop} {Q : Exit → Act → World → Prop} (s x : Operand) (ho : o.op = .call { callee := .builtin .append, args := #[s, x], argTypes := #[99, 99] })
    {B : Nat} {ok : Nat → Prop} {ls : List (List V)} {g cap nb : Nat} {l : List V} {c : Value} (hs : a.eval s = .slice (some ⟨g, 0, none⟩) ls.length cap) (hx : a.eval x = .slice (some ⟨nb, 0, none⟩) 1 1)
    (hW : Wait w B ok ls g cap) (hnb : w.heap[nb]? = some (.cells #[c] 23)) (hv : ValsIn w ok l c) (hn : ls.length ≤ 5000000000000) (hlow : ∀ k, ok k → k < w.heap.size)
    (hK : ∀ g' cap' w', Wait w' B ok (ls ++ [l]) g' cap' → w.grownBy w' (some g) → (g' = g ∨ w.heap.size = g') → K (a.put o.dst (.slice (some ⟨g', 0, none⟩) (ls.length + 1) cap')) w') : o.wp Tryz.prog a w K Q := by
  obtain ⟨g', cap', w', hr, h2, h3, h4⟩ := run_push hW hnb hv hn hlow o.type
  unfold Oper.wp execOp
  simp only [ho, resolve, invoke, builtin, Sem.run_bind, Sem.run_pure, Result.andThen_ok, List.map_toArray, List.map_cons, List.map_nil, hs, hx, hr]
  exact hK g' cap' w' h2 h3 h4
theorem step_push {w : World} {ops : Array Oper} {o : Oper} {a : Act} {K : Act → World → Prop} {Q : Exit → Act → World → Prop} {E : Prop} (hgd : o.guard = none) (s x : Operand) (ho : o.op = .call { callee := .builtin .append, args := #[s, x], argTypes := #[99, 99] })
    {B : Nat} {ok : Nat → Prop} {ls : List (List V)} {g cap nb : Nat} {l : List V} {c : Value} (hs : a.eval s = .slice (some ⟨g, 0, none⟩) ls.length cap) (hx : a.eval x = .slice (some ⟨nb, 0, none⟩) 1 1)
    (hW : Wait w B ok ls g cap) (hnb : w.heap[nb]? = some (.cells #[c] 23)) (hv : ValsIn w ok l c) (hn : ls.length ≤ 5000000000000) (hlow : ∀ k, ok k → k < w.heap.size)
    (hK : ∀ g' cap' w', Wait w' B ok (ls ++ [l]) g' cap' → w.grownBy w' (some g) → (g' = g ∨ w.heap.size = g') → K (a.put o.dst (.slice (some ⟨g', 0, none⟩) (ls.length + 1) cap')) w') :
    if Region.wanted o (yielded ops a.tmps) = true then Oper.wp Tryz.prog o a w K Q else E := by
  have hw : Region.wanted o (yielded ops a.tmps) = true := by simp [Region.wanted, hgd]
  rw [if_pos hw]
  exact wp_push s x ho hs hx hW hnb hv hn hlow hK
end Go.Proofs.YtmdemcjmcnfjmaaGreatDoor

/- Two rows of lists that wait, side by side. -/
set_option linter.unusedSimpArgs false
set_option linter.unusedVariables false
namespace Go.Proofs.YtmdemcjmcnfjmaaGreatDoor
open Go.RowKit

def okX (ok : Nat → Prop) (B i : Nat) : Nat → Prop := fun k => (ok k ∧ k < B) ∨ k = i
theorem okX_lt {ok : Nat → Prop} {B i H : Nat} (h1 : B ≤ H) (h2 : i < H) : ∀ k, okX ok B i k → k < H := by
  intro k hk
  rcases hk with hk | hk <;> omega
theorem okX_ne {ok : Nat → Prop} {B i g : Nat} (h1 : B ≤ g) (h2 : i ≠ g) : ∀ k, okX ok B i k → k ≠ g := by
  intro k hk
  rcases hk with hk | hk <;> omega
theorem bel_al {a w : World} (h : Below a.heap.size a w) (o : Obj) : Below a.heap.size a (w.alloc o) := bel_trans h (bel_alloc w o)
theorem bel_dr {a w : World} (h : Below a.heap.size a w) : Below a.heap.size a w.drew := h.drew
theorem szle {a w : World} (h : Below a.heap.size a w) : a.heap.size ≤ w.heap.size := h.size
theorem two_up {a w w' : World} {g g' : Nat} (h : Below a.heap.size a w) (q : w.grownBy w' (some g)) (o : g' = g ∨ w.heap.size = g') : a.grownBy w' (some g) ∧ (g' = g ∨ a.heap.size ≤ g') :=
  ⟨gb_trans (gb_below h) q, o.imp id fun e => by have := h.size; omega⟩
theorem heap_old {w : World} {k : Nat} {v : Obj} (h : w.heap[k]? = some v) (o : Obj) : (w.alloc o).heap[k]? = some v :=
  ((World.grownBy_alloc w o none).block k (Array.getElem?_eq_some_iff.1 h).1 (by simp)).trans h
theorem heap_at6 (w : World) (o1 o2 o3 o4 o5 o6 : Obj) (i : Nat) (hi : i < 6) : ((((((w.alloc o1).alloc o2).alloc o3).alloc o4).alloc o5).alloc o6).heap[w.heap.size + i]? = [o1, o2, o3, o4, o5, o6][i]? := by
  rcases (show i = 0 ∨ i = 1 ∨ i = 2 ∨ i = 3 ∨ i = 4 ∨ i = 5 by omega) with rfl | rfl | rfl | rfl | rfl | rfl
  · exact heap_old (heap_old (heap_old (heap_old (heap_old (heap_alloc_new w o1) _) _) _) _) _
  · exact heap_old (heap_old (heap_old (heap_old (by simpa using heap_alloc_new (w.alloc o1) o2) _) _) _) _
  · exact heap_old (heap_old (heap_old (by simpa using heap_alloc_new ((w.alloc o1).alloc o2) o3) _) _) _
  · exact heap_old (heap_old (by simpa using heap_alloc_new (((w.alloc o1).alloc o2).alloc o3) o4) _) _
  · exact heap_old (by simpa using heap_alloc_new ((((w.alloc o1).alloc o2).alloc o3).alloc o4) o5) _
  · simpa using heap_alloc_new (((((w.alloc o1).alloc o2).alloc o3).alloc o4).alloc o5) o6
def SE (w : World) (ok ok' : Nat → Prop) (ia ib : Nat) (ls rs : List (List V)) (gL gR cL cR : Nat) (wr : World) : Prop :=
  Wait wr w.heap.size (okX ok w.heap.size ia) ls gL cL ∧ Wait wr w.heap.size (okX ok' w.heap.size ib) rs gR cR ∧ gL ≠ gR ∧ ia ≠ gL ∧ ia ≠ gR ∧ ib ≠ gL ∧ ib ≠ gR ∧ ia < wr.heap.size ∧ ib < wr.heap.size ∧ Below w.heap.size w wr
theorem SE.bel {w wr wr' : World} {ok ok' : Nat → Prop} {ia ib : Nat} {ls rs : List (List V)} {gL gR cL cR : Nat} (h : SE w ok ok' ia ib ls rs gL gR cL cR wr) (hb : Below wr.heap.size wr wr') : SE w ok ok' ia ib ls rs gL gR cL cR wr' := by
  obtain ⟨h3, h4, h5, h6, h7, h8, h9, h10, h11, h12⟩ := h
  exact ⟨h3.bel hb, h4.bel hb, h5, h6, h7, h8, h9, Nat.lt_of_lt_of_le h10 hb.size, Nat.lt_of_lt_of_le h11 hb.size, bel_trans h12 hb⟩
theorem SE.swap {w wr : World} {ok ok' : Nat → Prop} {ia ib : Nat} {ls rs : List (List V)} {gL gR cL cR : Nat} (h : SE w ok ok' ia ib ls rs gL gR cL cR wr) : SE w ok' ok ib ia rs ls gR gL cR cL wr := by
  obtain ⟨h3, h4, h5, h6, h7, h8, h9, h10, h11, h12⟩ := h
  exact ⟨h4, h3, h5.symm, h9, h8, h7, h6, h11, h10, h12⟩
theorem SE.lows {w wr : World} {ok ok' : Nat → Prop} {ia ib : Nat} {ls rs : List (List V)} {gL gR cL cR : Nat} (h : SE w ok ok' ia ib ls rs gL gR cL cR wr) : ∀ k, okX ok w.heap.size ia k → k < wr.heap.size := okX_lt h.2.2.2.2.2.2.2.2.2.size h.2.2.2.2.2.2.2.1
/- Both are pushed, one behind the other. -/
theorem push_end {w w4 w5 w6 : World} {ok ok' : Nat → Prop} {ia ib : Nat} {ls rs : List (List V)} {gL gR cL cR g5 g6 c5 c6 : Nat} {lx ly : List V} (h : SE w ok ok' ia ib ls rs gL gR cL cR w4) (q5 : w4.grownBy w5 (some gL)) (h5 : Wait w5 w.heap.size (okX ok w.heap.size ia) (ls ++ [lx]) g5 c5) (o5 : g5 = gL ∨ w4.heap.size ≤ g5)
    (q6 : w5.grownBy w6 (some gR)) (h6 : Wait w6 w.heap.size (okX ok' w.heap.size ib) (rs ++ [ly]) g6 c6) (o6 : g6 = gR ∨ w5.heap.size ≤ g6) : SE w ok ok' ia ib (ls ++ [lx]) (rs ++ [ly]) g5 g6 c5 c6 w6 := by
  obtain ⟨h3, h4, e1, e2, e3, e4, e5, e6, e7, hB⟩ := h
  have l3 := h3.lt
  have l4 := h4.lt
  have l5 := h5.lt
  have s5 := q5.size
  have s6 := q6.size
  have hn : g5 ≠ gR := by omega
  refine ⟨h5.far q6 hn (okX_ne l4.1 e3), h6, by omega, by omega, by omega, by omega, by omega, by omega, by omega, ?_⟩
  exact gb_none (gb_out (gb_out (gb_below hB) q5 l3.1) q6 l4.1)
def SI (w : World) (ok ok' : Nat → Prop) (ia ib : Nat) (ls rs : List (List V)) (lv rv : Value) (wr : World) : Prop :=
  ∃ gL gR cL cR, lv = .slice (some ⟨gL, 0, none⟩) ls.length cL ∧ rv = .slice (some ⟨gR, 0, none⟩) rs.length cR ∧ SE w ok ok' ia ib ls rs gL gR cL cR wr
theorem SI.bel {w wr wr' : World} {ok ok' : Nat → Prop} {ia ib : Nat} {ls rs : List (List V)} {lv rv : Value} (h : SI w ok ok' ia ib ls rs lv rv wr) (hb : Below wr.heap.size wr wr') : SI w ok ok' ia ib ls rs lv rv wr' := by
  obtain ⟨gL, gR, cL, cR, h1, h2, h3⟩ := h
  exact ⟨gL, gR, cL, cR, h1, h2, h3.bel hb⟩
theorem own_one {w : World} {g B : Nat} {t : TypeId} {v : Value} (h : w.heap[g]? = some (.cells #[v] t)) (hB : B ≤ g) : w.ownsRow B t 1 (.slice (some ⟨g, 0, none⟩) 1 1) 1 [v] :=
  ⟨rfl, .inr ⟨g, 1, #[v], rfl, hB, h, Nat.le_refl _, by simp [maxLen], rfl, rfl⟩⟩
theorem wait_one {w : World} {g i B : Nat} {ok : Nat → Prop} {t : V} {c0 c1 c2 c3 c4 : Value} (hx : In w (okX ok B i) t (.agg #[c0, c1, c2, c3, c4])) (h1 : BoxIs w i c0 c1 c2 c3 c4) (h2 : w.heap[g]? = some (.cells #[.slice (some ⟨i, 0, none⟩) 1 1] 23)) (hB : B ≤ g) (hne : i ≠ g) : Wait w B (okX ok B i) [[t]] g 1 := by
  refine ⟨[.slice (some ⟨i, 0, none⟩) 1 1], own_one h2 hB, ⟨rfl, ?_⟩, okX_ne hB hne⟩
  intro j l c h3 h4
  cases j with
  | zero =>
    simp only [List.getElem?_cons_zero, Option.some.injEq] at h3 h4
    subst h3 h4
    exact vals_one hx h1 (.inr rfl)
  | succ j => simp at h3
theorem si_start {w W : World} {ok ok' : Nat → Prop} {ia ib gL gR : Nat} {a b : V} {a0 a1 a2 a3 a4 b0 b1 b2 b3 b4 : Value} (ha : In w ok a (.agg #[a0, a1, a2, a3, a4])) (hb : In w ok' b (.agg #[b0, b1, b2, b3, b4])) (hB : Below w.heap.size w W)
    (h1 : W.heap[gL]? = some (.cells #[.slice (some ⟨ia, 0, none⟩) 1 1] 23)) (h2 : W.heap[gR]? = some (.cells #[.slice (some ⟨ib, 0, none⟩) 1 1] 23)) (h3 : BoxIs W ia a0 a1 a2 a3 a4) (h4 : BoxIs W ib b0 b1 b2 b3 b4) (hn : gL ≠ gR ∧ ia ≠ gL ∧ ia ≠ gR ∧ ib ≠ gL ∧ ib ≠ gR ∧ w.heap.size ≤ gL ∧ w.heap.size ≤ gR) :
    SI w ok ok' ia ib [[a]] [[b]] (.slice (some ⟨gL, 0, none⟩) 1 1) (.slice (some ⟨gR, 0, none⟩) 1 1) W := by
  obtain ⟨n1, n2, n3, n4, n5, n6, n7⟩ := hn
  have k1 : In W (okX ok w.heap.size ia) a (.agg #[a0, a1, a2, a3, a4]) := (ha.low.bel hB).weak fun k hk => .inl hk
  have k2 : In W (okX ok' w.heap.size ib) b (.agg #[b0, b1, b2, b3, b4]) := (hb.low.bel hB).weak fun k hk => .inl hk
  exact ⟨gL, gR, 1, 1, rfl, rfl, wait_one k1 h3 h1 n6 n2, wait_one k2 h4 h2 n7 n5, n1, n2, n3, n4, n5, h3.lt, h4.lt, hB⟩
/- As many on both sides. -/
def PL (ls rs : List (List V)) : Prop := rs.length = ls.length ∧ ∀ (j : Nat) (l r : List V), ls[j]? = some l → rs[j]? = some r → r.length = l.length
theorem PL.push {ls rs : List (List V)} (h : PL ls rs) {l r : List V} (hl : r.length = l.length) : PL (ls ++ [l]) (rs ++ [r]) := by
  refine ⟨by simp [h.1], fun j l' r' h1 h2 => ?_⟩
  by_cases hj : j < ls.length
  · rw [List.getElem?_append_left hj] at h1
    rw [List.getElem?_append_left (by rw [h.1]; exact hj)] at h2
    exact h.2 j l' r' h1 h2
  · have : j < (ls ++ [l]).length := (List.getElem?_eq_some_iff.1 h1).1
    simp only [List.length_append, List.length_cons, List.length_nil] at this
    have e : j = ls.length := by omega
    subst e
    rw [List.getElem?_append_right (by omega)] at h1
    rw [List.getElem?_append_right (by rw [h.1]; omega)] at h2
    simp only [Nat.sub_self, List.getElem?_cons_zero, Option.some.injEq] at h1
    rw [h.1] at h2
    simp only [Nat.sub_self, List.getElem?_cons_zero, Option.some.injEq] at h2
    rw [← h1, ← h2]; exact hl
theorem PL.pop {ls rs : List (List V)} {l : List V} (h : PL (ls ++ [l]) rs) : ∃ qs r, rs = qs ++ [r] ∧ PL ls qs ∧ r.length = l.length := by
  have hl : rs.length = ls.length + 1 := by simpa using h.1
  obtain ⟨qs, r, rfl⟩ : ∃ qs r, rs = qs ++ [r] := ⟨rs.dropLast, rs.getLast (by intro e; rw [e] at hl; simp at hl), (List.dropLast_concat_getLast _).symm⟩
  have hd : qs.length = ls.length := by simpa using hl
  refine ⟨qs, r, rfl, ⟨hd, fun j l' r' h1 h2 => ?_⟩, ?_⟩
  · have h3 := (List.getElem?_eq_some_iff.1 h1).1
    exact h.2 j l' r' (by rw [List.getElem?_append_left h3]; exact h1) (by rw [List.getElem?_append_left (by omega)]; exact h2)
  · exact h.2 ls.length l r (by simp) (by rw [← hd]; simp)
theorem ends {α : Type} (ls : List α) : ls = [] ∨ ∃ ms l, ls = ms ++ [l] := by
  cases ls with
  | nil => exact .inl rfl
  | cons x xs => exact .inr ⟨(x :: xs).dropLast, (x :: xs).getLast (by simp), (List.dropLast_concat_getLast _).symm⟩
theorem drop_both {xs ys : List V} {k : Nat} (h1 : k < xs.length) (h2 : k < ys.length) : (xs.drop k = ys.drop k ↔ xs[k] = ys[k] ∧ xs.drop (k + 1) = ys.drop (k + 1)) := by
  rw [List.drop_eq_getElem_cons h1, List.drop_eq_getElem_cons h2, List.cons.injEq]
theorem snoc_both {α : Type} {a b : List α} {x y : α} : (a ++ [x] = b ++ [y] ↔ a = b ∧ x = y) := by
  constructor
  · intro h; exact List.append_inj' h rfl |>.imp id fun e => List.cons.inj e |>.1
  · rintro ⟨rfl, rfl⟩; rfl
/- What Same answers. -/
def SameP (w : World) (a b : V) (e : Ending) (w' : World) : Prop := ∃ r, e = .returned (.bool r) ∧ (r = true ↔ a = b) ∧ Below w.heap.size w w'
/- On the way through two lists. -/
def SJ (w : World) (ok ok' : Nat → Prop) (ia ib : Nat) (a b : V) (xs ys : List V) (xv yv : Value) (M k : Nat) (lv rv : Value) (wr : World) : Prop :=
  ∃ ls rs, (a = b ↔ ls = rs ∧ xs.drop k = ys.drop k) ∧ PL ls rs ∧ mu ls + cnts (xs.drop k) + 1 ≤ M ∧ M ≤ 2000000000001 ∧ ValsIn wr (okX ok w.heap.size ia) xs xv ∧ ValsIn wr (okX ok' w.heap.size ib) ys yv ∧ SI w ok ok' ia ib ls rs lv rv wr
theorem SJ.bel {w wr wr' : World} {ok ok' : Nat → Prop} {ia ib : Nat} {a b : V} {xs ys : List V} {xv yv : Value} {M k : Nat} {lv rv : Value} (h : SJ w ok ok' ia ib a b xs ys xv yv M k lv rv wr) (hb : Below wr.heap.size wr wr') : SJ w ok ok' ia ib a b xs ys xv yv M k lv rv wr' := by
  obtain ⟨ls, rs, h1, h2, h3, h4, h5, h6, h7⟩ := h
  exact ⟨ls, rs, h1, h2, h3, h4, h5.bel hb, h6.bel hb, h7.bel hb⟩
end Go.Proofs.YtmdemcjmcnfjmaaGreatDoor

/- What With of package json does where the key is there. -/
set_option linter.unusedSimpArgs false
set_option linter.unusedVariables false
namespace Go.Proofs.YtmdemcjmcnfjmaaGreatDoor
open Go.RowKit
attribute [local go_sem ↓] Go.wp_at_zero Go.wp_at_succ

set_option maxRecDepth 100000 in
set_option maxHeartbeats 40000000 in
theorem with_found (w : World) (ok : Nat → Prop) (d : Nat) (t x : V) (v xv : Value) (key : List UInt8) (i : Nat) (h : VIs w ok (d + 1) t v) (hx : VIs w ok d x xv) (hf : findV t key = some i) (hsz : t.l.length ≤ 100000) :
    Calls Tryz.prog 78 #[v, str key, xv] w fun e w' => ∃ r, e = .returned r ∧ VIs w' (okN ok w.heap.size) (d + 1) { t with l := t.l.take i ++ x :: t.l.drop (i + 1) } r ∧ Below w.heap.size w w' := by
  have H := hidI h
  have HX := hidI hx
  obtain ⟨ks, ls, rfl, h1, h2, h3, h4, h5⟩ := h
  have K5 := hidI h5
  have KK : Hid (I64 t.kind ∧ I64 t.n ∧ t.s.length ≤ maxLen ∧ StrsAre w ok t.keys ks) := ⟨h1, h2, h3, h4⟩
  obtain ⟨a1, c1, rfl⟩ := h4.form
  have l1 := h4.1
  obtain ⟨f1, f2, f3, f4⟩ := findV_some hf
  have F := hidI hf
  have FP := hidI f1
  clear hf f1 f2
  obtain ⟨_, K5'⟩ := K5.out
  rcases K5' with ⟨e, _⟩ | ⟨b, off, c, hls', hc1, hc2, hcs⟩
  · rw [e] at f3; simp at f3
  subst hls'
  obtain ⟨xk, xl, hxv⟩ : ∃ xk xl, xv = .agg #[.int .i64 x.kind, .int .i64 x.n, str x.s, xk, xl] := by
    match d, hx with
    | d + 1, hx => obtain ⟨ks, ls, e, _⟩ := hx; exact ⟨ks, ls, e⟩
  subst hxv
  obtain ⟨-, -, -, ⟨a7, c7, rfl⟩, ⟨a8, c8, rfl⟩⟩ := hx.agg
  unfold maxLen at l1 h3 hc2
  unfold str
  clear h4 h5 h1 h2 hx hcs
  go_enter Tryz.func78, Tryz.ntmps78
  go_wp2_with fail
  refine (paired_at _ ok _ t _ (by exact H.out.bel (bel_trans (bel_trans (bel_alloc _ _) (bel_alloc _ _)) (bel_alloc _ _)))).mono ?_
  rintro e w1 ⟨rfl, hb1⟩
  rw [FP.out]
  have bx : Hid (BoxIs w1 w.heap.size (.int .i64 t.kind) (.int .i64 t.n) (.string ⟨t.s.toArray⟩) (.slice a1 t.keys.length c1) (.slice (some ⟨b, off, none⟩) t.l.length c) ∧ BoxIs w1 (w.heap.size + 1) (.int .i64 x.kind) (.int .i64 x.n) (.string ⟨x.s.toArray⟩) (.slice a7 x.keys.length c7) (.slice a8 x.l.length c8) ∧ BoxIs w1 (w.heap.size + 2) (.int .i64 0) (.int .i64 0) (.string ⟨#[]⟩) (.slice none 0 0) (.slice none 0 0)) := ⟨box_bel hb1 (h3a w _ _ _), box_bel hb1 (h3b w _ _ _), box_bel hb1 (h3c w _ _ _)⟩
  obtain ⟨p0, p1, p2, p3, p4, -, -, -, p9, p10⟩ := bx.out.1.c
  have B1 : Hid (Below w.heap.size w w1) := bel_trans (bel_trans (bel_trans (bel_alloc _ _) (bel_alloc _ _)) (bel_alloc _ _)) hb1
  clear hb1
  go_wp2_with fail
  refine (find_at _ ok _ t _ key (by exact H.out.bel B1.out)).mono ?_
  rintro e w2 ⟨rfl, hb2⟩
  rw [F.out]
  have bx2 : Hid (BoxIs w2 w.heap.size (.int .i64 t.kind) (.int .i64 t.n) (.string ⟨t.s.toArray⟩) (.slice a1 t.keys.length c1) (.slice (some ⟨b, off, none⟩) t.l.length c) ∧ BoxIs w2 (w.heap.size + 1) (.int .i64 x.kind) (.int .i64 x.n) (.string ⟨x.s.toArray⟩) (.slice a7 x.keys.length c7) (.slice a8 x.l.length c8) ∧ BoxIs w2 (w.heap.size + 2) (.int .i64 0) (.int .i64 0) (.string ⟨#[]⟩) (.slice none 0 0) (.slice none 0 0)) := ⟨box_bel hb2 bx.out.1, box_bel hb2 bx.out.2.1, box_bel hb2 bx.out.2.2⟩
  have B2 : Hid (Below w.heap.size w w2) := bel_trans B1.out hb2
  have hsz2 : w.heap.size + 2 < w2.heap.size := bx2.out.2.2.lt
  clear hb2 p0 p1 p2 p3 p4 p9 p10 bx B1
  unfold optI
  obtain ⟨p0, p1, p2, p3, p4, -, -, -, p9, p10⟩ := bx2.out.1.c
  obtain ⟨q0, q1, q2, q3, q4, -⟩ := bx2.out.2.1.c
  have i0 : 0 ≤ (i : Int) := by omega
  have i1 : (i : Int) ≤ (c : Int) := by omega
  have i2 : (i : Int) + 1 ≤ (t.l.length : Int) := by omega
  have i3 : (t.l.length : Int) ≤ (c : Int) := by omega
  obtain ⟨cs1, cs2, r1, s1, r2, s2⟩ := sl_parts K5.out i (i + 1) (by omega) f3 (by omega)
  obtain ⟨a3, hifs⟩ : ∃ a3, (if c = i + 1 then (some ⟨b, off, none⟩ : Option Addr) else some ⟨b, off + (i + 1) * 5, none⟩) = a3 := ⟨_, rfl⟩
  rw [hifs] at s2
  have PP : Hid (RowV (VIs w ok d) (t.l.take i) cs1 ∧ SlIs w 5 (.slice (some ⟨b, off, none⟩) i c) i cs1 ∧ RowV (VIs w ok d) (t.l.drop (i + 1)) cs2 ∧ SlIs w 5 (.slice a3 (t.l.length - (i + 1)) (c - (i + 1))) (t.l.length - (i + 1)) cs2) := ⟨r1, s1, r2, s2⟩
  clear r1 s1 r2 s2
  go_wp2_with fail
  have hw1 : IntKind.i64.wrap ((i : Int) + 1) = (i : Int) + 1 := by rw [IntKind.wrap_i64]; omega
  have i4 : (0 : Int) ≤ (i : Int) + 1 := by omega
  have hS : Hid (∀ W', Below w2.heap.size w2 W' → BoxIs W' w.heap.size (.int .i64 t.kind) (.int .i64 t.n) (.string ⟨t.s.toArray⟩) (.slice a1 t.keys.length c1) (.slice (some ⟨b, off, none⟩) t.l.length c) ∧ BoxIs W' (w.heap.size + 1) (.int .i64 x.kind) (.int .i64 x.n) (.string ⟨x.s.toArray⟩) (.slice a7 x.keys.length c7) (.slice a8 x.l.length c8) ∧ BoxIs W' (w.heap.size + 2) (.int .i64 0) (.int .i64 0) (.string ⟨#[]⟩) (.slice none 0 0) (.slice none 0 0)) :=
    fun W' hb => ⟨box_bel hb bx2.out.1, box_bel hb bx2.out.2.1, box_bel hb bx2.out.2.2⟩
  have hcon : Hid (∀ W, W.heap = ((w2.alloc (.cells #[.int .i64 x.kind, .int .i64 x.n, .string ⟨x.s.toArray⟩, .slice a7 x.keys.length c7, .slice a8 x.l.length c8] 25)).alloc (.cells #[.slice (some ⟨b, off, none⟩) i c, .slice (some ⟨w2.heap.size, 0, none⟩) 1 1, .slice a3 (t.l.length - (i + 1)) (c - (i + 1))] 23)).heap → W.os = w2.os → W.tape = w2.tape → W.output = w2.output →
      Calls Tryz.prog 79 #[.slice (some ⟨w2.heap.size + 1, 0, none⟩) 3 3] W fun e w' => ∃ g cap, e = .returned (.slice (some ⟨g, 0, none⟩) t.l.length cap) ∧ w'.ownsRow w2.heap.size 25 5 (.slice (some ⟨g, 0, none⟩) t.l.length cap) t.l.length (cs1 ++ [.int .i64 x.kind, .int .i64 x.n, .string ⟨x.s.toArray⟩, .slice a7 x.keys.length c7, .slice a8 x.l.length c8] ++ cs2) ∧ Below w2.heap.size w2 w') := by
    intro W e1 e2 e3 e4
    have hbW : Below w2.heap.size w2 W := by
      have := bel_trans (bel_alloc w2 (.cells #[.int .i64 x.kind, .int .i64 x.n, .string ⟨x.s.toArray⟩, .slice a7 x.keys.length c7, .slice a8 x.l.length c8] 25)) (bel_alloc _ (.cells #[.slice (some ⟨b, off, none⟩) i c, .slice (some ⟨w2.heap.size, 0, none⟩) 1 1, .slice a3 (t.l.length - (i + 1)) (c - (i + 1))] 23))
      exact ⟨e2, e3, e4, by rw [e1]; exact this.size, fun k hk => by rw [e1]; exact this.block k hk⟩
    have ha := h2a w2 (.cells #[.int .i64 x.kind, .int .i64 x.n, .string ⟨x.s.toArray⟩, .slice a7 x.keys.length c7, .slice a8 x.l.length c8] 25) (.cells #[.slice (some ⟨b, off, none⟩) i c, .slice (some ⟨w2.heap.size, 0, none⟩) 1 1, .slice a3 (t.l.length - (i + 1)) (c - (i + 1))] 23)
    have hb := h2b w2 (.cells #[.int .i64 x.kind, .int .i64 x.n, .string ⟨x.s.toArray⟩, .slice a7 x.keys.length c7, .slice a8 x.l.length c8] 25) (.cells #[.slice (some ⟨b, off, none⟩) i c, .slice (some ⟨w2.heap.size, 0, none⟩) 1 1, .slice a3 (t.l.length - (i + 1)) (c - (i + 1))] 23)
    rw [← e1] at ha hb
    have hbw : Below w.heap.size w W := bel_trans B2.out hbW
    refine (concatV3 W (w2.heap.size + 1) ⟨_, i, cs1⟩ ⟨_, 1, _⟩ ⟨_, t.l.length - (i + 1), cs2⟩ (by simp [World.cell?, hb]) (by simp [World.cell?, hb]) (by simp [World.cell?, hb]) (PP.out.2.1.bel hbw) (slbox ha (one5 _ _ _ _ _ _ _ _ _)) (PP.out.2.2.2.bel hbw) (by simp only; omega)).mono ?_
    rintro e w' ⟨v, rfl, ho, hb9⟩
    have en : i + 1 + (t.l.length - (i + 1)) = t.l.length := by omega
    simp only at ho
    rw [en] at ho
    have ho' : w'.ownsRow w2.heap.size 25 5 v t.l.length (cs1 ++ [.int .i64 x.kind, .int .i64 x.n, .string ⟨x.s.toArray⟩, .slice a7 x.keys.length c7, .slice a8 x.l.length c8] ++ cs2) := own_base ho hbW.size
    rcases ho'.2 with ⟨_, h0⟩ | ⟨g, cap, cur, e, rest⟩
    · omega
    · subst e
      exact ⟨g, cap, rfl, ho', bel_trans hbW hb9⟩
  have k4 : ∀ o, (w2.alloc o).cell? ⟨w.heap.size, 4, none⟩ = some (.slice (some ⟨b, off, none⟩) t.l.length c) := fun o => (hS.out _ (bel_alloc w2 o)).1.c.2.2.2.2.1
  have m0 : ∀ o, (w2.alloc o).cell? ⟨w.heap.size + 1, 0, none⟩ = some (.int .i64 x.kind) := fun o => (hS.out _ (bel_alloc w2 o)).2.1.c.1
  have m1 : ∀ o, (w2.alloc o).cell? ⟨w.heap.size + 1, 1, none⟩ = some (.int .i64 x.n) := fun o => (hS.out _ (bel_alloc w2 o)).2.1.c.2.1
  have m2 : ∀ o, (w2.alloc o).cell? ⟨w.heap.size + 1, 2, none⟩ = some (.string ⟨x.s.toArray⟩) := fun o => (hS.out _ (bel_alloc w2 o)).2.1.c.2.2.1
  have m3 : ∀ o, (w2.alloc o).cell? ⟨w.heap.size + 1, 3, none⟩ = some (.slice a7 x.keys.length c7) := fun o => (hS.out _ (bel_alloc w2 o)).2.1.c.2.2.2.1
  have m4 : ∀ o, (w2.alloc o).cell? ⟨w.heap.size + 1, 4, none⟩ = some (.slice a8 x.l.length c8) := fun o => (hS.out _ (bel_alloc w2 o)).2.1.c.2.2.2.2.1
  have fin : Hid (∀ w3 g cap, w3.ownsRow w2.heap.size 25 5 (.slice (some ⟨g, 0, none⟩) t.l.length cap) t.l.length (cs1 ++ [.int .i64 x.kind, .int .i64 x.n, .string ⟨x.s.toArray⟩, .slice a7 x.keys.length c7, .slice a8 x.l.length c8] ++ cs2) → Below w2.heap.size w2 w3 →
      VIs (set5 (w3.setCell ⟨w.heap.size, 4, none⟩ (.slice (some ⟨g, 0, none⟩) t.l.length cap)) (w.heap.size + 2) (.int .i64 t.kind) (.int .i64 t.n) (.string ⟨t.s.toArray⟩) (.slice a1 t.keys.length c1) (.slice (some ⟨g, 0, none⟩) t.l.length cap)) (okN ok w.heap.size) (d + 1) { t with l := t.l.take i ++ x :: t.l.drop (i + 1) } (.agg #[.int .i64 t.kind, .int .i64 t.n, .string ⟨t.s.toArray⟩, .slice a1 t.keys.length c1, .slice (some ⟨g, 0, none⟩) t.l.length cap]) ∧
      Below w.heap.size w (set5 (w3.setCell ⟨w.heap.size, 4, none⟩ (.slice (some ⟨g, 0, none⟩) t.l.length cap)) (w.heap.size + 2) (.int .i64 t.kind) (.int .i64 t.n) (.string ⟨t.s.toArray⟩) (.slice a1 t.keys.length c1) (.slice (some ⟨g, 0, none⟩) t.l.length cap)) ∧
      BoxIs (set5 (w3.setCell ⟨w.heap.size, 4, none⟩ (.slice (some ⟨g, 0, none⟩) t.l.length cap)) (w.heap.size + 2) (.int .i64 t.kind) (.int .i64 t.n) (.string ⟨t.s.toArray⟩) (.slice a1 t.keys.length c1) (.slice (some ⟨g, 0, none⟩) t.l.length cap)) (w.heap.size + 2) (.int .i64 t.kind) (.int .i64 t.n) (.string ⟨t.s.toArray⟩) (.slice a1 t.keys.length c1) (.slice (some ⟨g, 0, none⟩) t.l.length cap)) := by
    intro w3 g cap ho hb
    have g1 : w3.grownBy (w3.setCell ⟨w.heap.size, 4, none⟩ (.slice (some ⟨g, 0, none⟩) t.l.length cap)) (some w.heap.size) := gb_set (gb_refl _ _) _ _
    have g2 := set5_gb (w3.setCell ⟨w.heap.size, 4, none⟩ (.slice (some ⟨g, 0, none⟩) t.l.length cap)) (w.heap.size + 2) (.int .i64 t.kind) (.int .i64 t.n) (.string ⟨t.s.toArray⟩) (.slice a1 t.keys.length c1) (.slice (some ⟨g, 0, none⟩) t.l.length cap)
    have hbx := ((hS.out _ hb).2.2.grown g1 (by simp)).set (.int .i64 t.kind) (.int .i64 t.n) (.string ⟨t.s.toArray⟩) (.slice a1 t.keys.length c1) (.slice (some ⟨g, 0, none⟩) t.l.length cap)
    have hbw : Below w.heap.size w w3 := bel_trans B2.out hb
    have hb9 : Below w.heap.size w (set5 (w3.setCell ⟨w.heap.size, 4, none⟩ (.slice (some ⟨g, 0, none⟩) t.l.length cap)) (w.heap.size + 2) (.int .i64 t.kind) (.int .i64 t.n) (.string ⟨t.s.toArray⟩) (.slice a1 t.keys.length c1) (.slice (some ⟨g, 0, none⟩) t.l.length cap)) :=
      gb_none (gb_set5 (gb_setA (gb_below hbw) (Nat.le_refl _) _ _) (by omega) _ _ _ _ _)
    refine ⟨⟨_, _, rfl, KK.out.1, KK.out.2.1, KK.out.2.2.1, ?_, ?_⟩, hb9, hbx⟩
    · exact (KK.out.2.2.2.bel hb9).imp fun a x h1 h2 => ⟨.inl h1, h2⟩
    · have ho9 := own_kept' (own_kept' ho g1 (by omega)) g2 (by omega)
      have hlen : t.l.length = (t.l.take i ++ x :: t.l.drop (i + 1)).length := by simp; omega
      refine own_vals hlen ho9 ?_ (fun k hk => .inr (by omega)) (by rw [← hlen]; unfold maxLen; omega)
      have rx : RowV (VIs _ (okN ok w.heap.size) d) [x] [.int .i64 x.kind, .int .i64 x.n, .string ⟨x.s.toArray⟩, .slice a7 x.keys.length c7, .slice a8 x.l.length c8] := ⟨_, _, _, _, _, [], rfl, (HX.out.bel hb9).toN, rfl⟩
      have := ((PP.out.2.2.1.bel (B := w.heap.size) hb9).append rx).append (PP.out.1.bel (B := w.heap.size) hb9)
      rw [List.append_assoc]
      exact this
  go_region_with ((go_at_call 79; refine (hcon.out _ (by rfl) (by rfl) (by rfl) (by rfl)).mono ?_; rintro e w3 ⟨g, cap, rfl, ho3, hb3⟩; obtain ⟨p0, p1, p2, p3, p4, -, -, -, p9, p10⟩ := (hS.out _ hb3).1.c; obtain ⟨x0, x1, x2, x3, x4, y0, y1, y2, y3, y4⟩ := (hS.out _ hb3).2.2.c; have O3 := hidI ho3; have HB3 := hidI hb3; clear ho3 hb3))
  all_goals
    go_wp2_with fail
    obtain ⟨f1, f2, f3⟩ := fin.out _ g cap O3.out HB3.out
    obtain ⟨z0, z1, z2, z3, z4, -⟩ := f3.c
    refine bodyPost_ret (v := .agg #[.int .i64 t.kind, .int .i64 t.n, .string ⟨t.s.toArray⟩, .slice a1 t.keys.length c1, .slice (some ⟨g, 0, none⟩) t.l.length cap]) ?_ rfl ?_
    · simp only [set5] at z0 z1 z2 z3 z4
      simp [results, Tryz.results78, go_sem, z0, z1, z2, z3, z4]
    · exact ⟨_, rfl, f1, f2⟩
end Go.Proofs.YtmdemcjmcnfjmaaGreatDoor

/- Concat of three parts, as With calls it. -/
set_option linter.unusedSimpArgs false
set_option linter.unusedVariables false
namespace Go.Proofs.YtmdemcjmcnfjmaaGreatDoor
open Go.RowKit

/- Concat of a part, one element of its own block, and a part, out of two new blocks. -/
theorem conS3 {w2 : World} {v1 v3 : Value} {n1 n3 N : Nat} {cs1 cs3 : List Value} (key : ByteArray) (s1 : SlIs w2 1 v1 n1 cs1) (s3 : SlIs w2 1 v3 n3 cs3) (hN : n1 + 1 + n3 = N) (hn : N ≤ 1000000) (W : World)
    (e1 : W.heap = ((w2.alloc (.cells #[.string key] 9)).alloc (.cells #[v1, .slice (some ⟨w2.heap.size, 0, none⟩) 1 1, v3] 22)).heap) (e2 : W.os = w2.os) (e3 : W.tape = w2.tape) (e4 : W.output = w2.output) :
    Calls Tryz.prog 123 #[.slice (some ⟨w2.heap.size + 1, 0, none⟩) 3 3] W fun e w' => ∃ g cap, e = .returned (.slice (some ⟨g, 0, none⟩) N cap) ∧ w'.ownsRow w2.heap.size 9 1 (.slice (some ⟨g, 0, none⟩) N cap) N (cs1 ++ [.string key] ++ cs3) ∧ Below w2.heap.size w2 w' := by
  have hbW : Below w2.heap.size w2 W := by
    have := bel_trans (bel_alloc w2 (.cells #[.string key] 9)) (bel_alloc _ (.cells #[v1, .slice (some ⟨w2.heap.size, 0, none⟩) 1 1, v3] 22))
    exact ⟨e2, e3, e4, by rw [e1]; exact this.size, fun k hk => by rw [e1]; exact this.block k hk⟩
  have ha := h2a w2 (.cells #[.string key] 9) (.cells #[v1, .slice (some ⟨w2.heap.size, 0, none⟩) 1 1, v3] 22)
  have hb := h2b w2 (.cells #[.string key] 9) (.cells #[v1, .slice (some ⟨w2.heap.size, 0, none⟩) 1 1, v3] 22)
  rw [← e1] at ha hb
  refine (concatS3 W (w2.heap.size + 1) ⟨v1, n1, cs1⟩ ⟨_, 1, _⟩ ⟨v3, n3, cs3⟩ (by simp [World.cell?, hb]) (by simp [World.cell?, hb]) (by simp [World.cell?, hb]) (s1.bel hbW) (slone ha rfl) (s3.bel hbW) (by simp only; omega)).mono ?_
  rintro e w' ⟨v, rfl, ho, hb9⟩
  simp only at ho
  rw [hN] at ho
  have ho' := own_base ho hbW.size
  rcases ho'.2 with ⟨_, h0⟩ | ⟨g, cap, cur, e, rest⟩
  · omega
  · subst e
    exact ⟨g, cap, rfl, ho', bel_trans hbW hb9⟩
theorem conV3 {w2 : World} {v1 v3 : Value} {n1 n3 N : Nat} {cs1 cs3 : List Value} (k n : Int) (s : ByteArray) (a7 a8 : Option Addr) (l7 c7 l8 c8 : Nat) (s1 : SlIs w2 5 v1 n1 cs1) (s3 : SlIs w2 5 v3 n3 cs3) (hN : n1 + 1 + n3 = N) (hn : N ≤ 1000000) (W : World)
    (e1 : W.heap = ((w2.alloc (.cells #[.int .i64 k, .int .i64 n, .string s, .slice a7 l7 c7, .slice a8 l8 c8] 25)).alloc (.cells #[v1, .slice (some ⟨w2.heap.size, 0, none⟩) 1 1, v3] 23)).heap) (e2 : W.os = w2.os) (e3 : W.tape = w2.tape) (e4 : W.output = w2.output) :
    Calls Tryz.prog 79 #[.slice (some ⟨w2.heap.size + 1, 0, none⟩) 3 3] W fun e w' => ∃ g cap, e = .returned (.slice (some ⟨g, 0, none⟩) N cap) ∧ w'.ownsRow w2.heap.size 25 5 (.slice (some ⟨g, 0, none⟩) N cap) N (cs1 ++ [.int .i64 k, .int .i64 n, .string s, .slice a7 l7 c7, .slice a8 l8 c8] ++ cs3) ∧ Below w2.heap.size w2 w' := by
  have hbW : Below w2.heap.size w2 W := by
    have := bel_trans (bel_alloc w2 (.cells #[.int .i64 k, .int .i64 n, .string s, .slice a7 l7 c7, .slice a8 l8 c8] 25)) (bel_alloc _ (.cells #[v1, .slice (some ⟨w2.heap.size, 0, none⟩) 1 1, v3] 23))
    exact ⟨e2, e3, e4, by rw [e1]; exact this.size, fun k hk => by rw [e1]; exact this.block k hk⟩
  have ha := h2a w2 (.cells #[.int .i64 k, .int .i64 n, .string s, .slice a7 l7 c7, .slice a8 l8 c8] 25) (.cells #[v1, .slice (some ⟨w2.heap.size, 0, none⟩) 1 1, v3] 23)
  have hb := h2b w2 (.cells #[.int .i64 k, .int .i64 n, .string s, .slice a7 l7 c7, .slice a8 l8 c8] 25) (.cells #[v1, .slice (some ⟨w2.heap.size, 0, none⟩) 1 1, v3] 23)
  rw [← e1] at ha hb
  refine (concatV3 W (w2.heap.size + 1) ⟨v1, n1, cs1⟩ ⟨_, 1, _⟩ ⟨v3, n3, cs3⟩ (by simp [World.cell?, hb]) (by simp [World.cell?, hb]) (by simp [World.cell?, hb]) (s1.bel hbW) (slbox ha (one5 _ _ _ _ _ _ _ _ _)) (s3.bel hbW) (by simp only; omega)).mono ?_
  rintro e w' ⟨v, rfl, ho, hb9⟩
  simp only at ho
  rw [hN] at ho
  have ho' := own_base ho hbW.size
  rcases ho'.2 with ⟨_, h0⟩ | ⟨g, cap, cur, e, rest⟩
  · omega
  · subst e
    exact ⟨g, cap, rfl, ho', bel_trans hbW hb9⟩
end Go.Proofs.YtmdemcjmcnfjmaaGreatDoor

/- What With of package json does where the key is not there. -/
set_option linter.unusedSimpArgs false
set_option linter.unusedVariables false
namespace Go.Proofs.YtmdemcjmcnfjmaaGreatDoor
open Go.RowKit
attribute [local go_sem ↓] Go.wp_at_zero Go.wp_at_succ

/- Where a key belongs. -/
def insAt (key : List UInt8) (keys : List (List UInt8)) : Nat := (keys.takeWhile fun a => Op.bytesLess a key).length
theorem insAt_le (key : List UInt8) (keys : List (List UInt8)) : insAt key keys ≤ keys.length := (List.takeWhile_sublist _).length_le
theorem insAt_step {key a : List UInt8} {keys : List (List UInt8)} {k : Nat} (h : keys[k]? = some a) (hk : k ≤ insAt key keys) (hl : Op.bytesLess a key = true) : k < insAt key keys := by
  induction keys generalizing k with
  | nil => simp at h
  | cons b keys ih =>
    unfold insAt at hk ⊢
    rw [List.takeWhile_cons] at hk ⊢
    cases k with
    | zero => simp at h; subst h; simp [hl]
    | succ k =>
      split at hk
      · rename_i hb
        rw [if_pos hb]
        simp only [List.length_cons] at hk ⊢
        have := ih (k := k) (by simpa using h) (by unfold insAt; omega)
        unfold insAt at this; omega
      · simp at hk
theorem insAt_end {key a : List UInt8} {keys : List (List UInt8)} {k : Nat} (h : keys[k]? = some a) (hk : k ≤ insAt key keys) (hl : Op.bytesLess a key = false) : k = insAt key keys := by
  induction keys generalizing k with
  | nil => simp at h
  | cons b keys ih =>
    unfold insAt at hk ⊢
    rw [List.takeWhile_cons] at hk ⊢
    cases k with
    | zero => simp at h; subst h; simp [hl]
    | succ k =>
      split at hk
      · rename_i hb
        rw [if_pos hb]
        simp only [List.length_cons] at hk ⊢
        have := ih (k := k) (by simpa using h) (by unfold insAt; omega)
        unfold insAt at this; omega
      · simp at hk

/- Behind the keys' Concat. -/
def MidI (w w2 : World) (t x : V) (key : List UInt8) (at_ : Nat) (a2 a7 a8 : Option Addr) (c2 c7 c8 : Nat) (wc : World) : Prop :=
  ∃ g cap, BoxIs wc w.heap.size (.int .i64 t.kind) (.int .i64 t.n) (.string ⟨t.s.toArray⟩) (.slice (some ⟨g, 0, none⟩) (t.keys.length + 1) cap) (.slice a2 t.l.length c2) ∧
    BoxIs wc (w.heap.size + 1) (.int .i64 x.kind) (.int .i64 x.n) (.string ⟨x.s.toArray⟩) (.slice a7 x.keys.length c7) (.slice a8 x.l.length c8) ∧
    BoxIs wc (w.heap.size + 2) (.int .i64 0) (.int .i64 0) (.string ⟨#[]⟩) (.slice none 0 0) (.slice none 0 0) ∧
    wc.ownsRow w2.heap.size 9 1 (.slice (some ⟨g, 0, none⟩) (t.keys.length + 1) cap) (t.keys.length + 1) ((t.keys.take at_).map str ++ [str key] ++ (t.keys.drop at_).map str) ∧
    Below w.heap.size w wc ∧ w2.heap.size ≤ wc.heap.size

theorem own_bel {w w' : World} {B : Nat} {e : TypeId} {size : Nat} {v : Value} {n : Nat} {xs : List Value} (h : w.ownsRow B e size v n xs) (hb : Below w.heap.size w w') : w'.ownsRow B e size v n xs := h.kept (gb_below (r := none) hb) (by cases v.ownBlock <;> simp)
theorem StrsAre.mem {w : World} {ok : Nat → Prop} {xs : List (List UInt8)} {v : Value} (h : StrsAre w ok xs v) (y : List UInt8) (hy : y ∈ xs) : y.length ≤ maxLen := by
  rcases h.2 with ⟨e, _⟩ | ⟨b, off, c, e, h1, h2, h3⟩
  · rw [e] at hy; simp at hy
  · obtain ⟨i, hi⟩ := List.getElem?_of_mem hy
    exact (h3 i y hi).1
theorem box_set3 {w : World} {g : Nat} {c0 c1 c2 c3 c4 : Value} (h : BoxIs w g c0 c1 c2 c3 c4) (v : Value) : BoxIs (w.setCell ⟨g, 3, none⟩ v) g c0 c1 c2 v c4 := heap_set h 3 v
set_option maxRecDepth 100000 in
set_option maxHeartbeats 40000000 in
theorem with_new (w : World) (ok : Nat → Prop) (d : Nat) (t x : V) (v xv : Value) (key : List UInt8) (h : VIs w ok (d + 1) t v) (hx : VIs w ok d x xv) (hf : findV t key = none) (hp : pairedV t = true) (hsz : t.l.length ≤ 100000) (hkey : key.length ≤ maxLen) :
    Calls Tryz.prog 78 #[v, str key, xv] w fun e w' => ∃ r, e = .returned r ∧ VIs w' (okN ok w.heap.size) (d + 1) { t with keys := t.keys.take (insAt key t.keys) ++ key :: t.keys.drop (insAt key t.keys), l := t.l.take (insAt key t.keys) ++ x :: t.l.drop (insAt key t.keys) } r ∧ Below w.heap.size w w' := by
  have H := hidI h
  have HX := hidI hx
  obtain ⟨ks, ls, rfl, h1, h2, h3, h4, h5⟩ := h
  have KK : Hid (I64 t.kind ∧ I64 t.n ∧ t.s.length ≤ maxLen ∧ StrsAre w ok t.keys ks ∧ ValsAre w ok (VIs w ok d) t.l ls) := ⟨h1, h2, h3, h4, h5⟩
  obtain ⟨a1, c1, rfl⟩ := h4.form
  obtain ⟨a2, c2, rfl⟩ := h5.form
  have l1 := h4.1
  have l2 := h5.1
  have F := hidI hf
  have FP := hidI hp
  have hkl : t.keys.length = t.l.length := by
    simp only [pairedV, Bool.and_eq_true, decide_eq_true_eq] at hp; exact hp.2
  have HKL := hidI hkl
  have hkl1 : t.keys.length ≤ t.l.length := by omega
  have hkl2 : t.l.length ≤ t.keys.length := by omega
  clear hf hp hkl
  obtain ⟨xk, xl, hxv⟩ : ∃ xk xl, xv = .agg #[.int .i64 x.kind, .int .i64 x.n, str x.s, xk, xl] := by
    match d, hx with
    | d + 1, hx => obtain ⟨ks, ls, e, _⟩ := hx; exact ⟨ks, ls, e⟩
  subst hxv
  obtain ⟨-, -, -, ⟨a7, c7, rfl⟩, ⟨a8, c8, rfl⟩⟩ := hx.agg
  unfold maxLen at l1 h3 l2
  unfold str
  clear h4 h5 h1 h2 hx
  go_enter Tryz.func78, Tryz.ntmps78
  go_wp2_with fail
  refine (paired_at _ ok _ t _ (by exact H.out.bel (bel_trans (bel_trans (bel_alloc _ _) (bel_alloc _ _)) (bel_alloc _ _)))).mono ?_
  rintro e w1 ⟨rfl, hb1⟩
  rw [FP.out]
  have bx : Hid (BoxIs w1 w.heap.size (.int .i64 t.kind) (.int .i64 t.n) (.string ⟨t.s.toArray⟩) (.slice a1 t.keys.length c1) (.slice a2 t.l.length c2) ∧ BoxIs w1 (w.heap.size + 1) (.int .i64 x.kind) (.int .i64 x.n) (.string ⟨x.s.toArray⟩) (.slice a7 x.keys.length c7) (.slice a8 x.l.length c8) ∧ BoxIs w1 (w.heap.size + 2) (.int .i64 0) (.int .i64 0) (.string ⟨#[]⟩) (.slice none 0 0) (.slice none 0 0)) := ⟨box_bel hb1 (h3a w _ _ _), box_bel hb1 (h3b w _ _ _), box_bel hb1 (h3c w _ _ _)⟩
  obtain ⟨p0, p1, p2, p3, p4, -, -, -, p9, p10⟩ := bx.out.1.c
  have B1 : Hid (Below w.heap.size w w1) := bel_trans (bel_trans (bel_trans (bel_alloc _ _) (bel_alloc _ _)) (bel_alloc _ _)) hb1
  clear hb1
  go_wp2_with fail
  refine (find_at _ ok _ t _ key (by exact H.out.bel B1.out)).mono ?_
  rintro e w2 ⟨rfl, hb2⟩
  rw [F.out]
  have bx2 : Hid (BoxIs w2 w.heap.size (.int .i64 t.kind) (.int .i64 t.n) (.string ⟨t.s.toArray⟩) (.slice a1 t.keys.length c1) (.slice a2 t.l.length c2) ∧ BoxIs w2 (w.heap.size + 1) (.int .i64 x.kind) (.int .i64 x.n) (.string ⟨x.s.toArray⟩) (.slice a7 x.keys.length c7) (.slice a8 x.l.length c8) ∧ BoxIs w2 (w.heap.size + 2) (.int .i64 0) (.int .i64 0) (.string ⟨#[]⟩) (.slice none 0 0) (.slice none 0 0)) := ⟨box_bel hb2 bx.out.1, box_bel hb2 bx.out.2.1, box_bel hb2 bx.out.2.2⟩
  have B2 : Hid (Below w.heap.size w w2) := bel_trans B1.out hb2
  have hsz2 : w.heap.size + 2 < w2.heap.size := bx2.out.2.2.lt
  clear hb2 p0 p1 p2 p3 p4 p9 p10 bx B1
  unfold optI
  obtain ⟨p0, p1, p2, p3, p4, -, -, -, p9, p10⟩ := bx2.out.1.c
  obtain ⟨q0, q1, q2, q3, q4, -⟩ := bx2.out.2.1.c
  go_upto_block 0 with fail
  go_cut [8] (fun i wc => i = .int .i64 (insAt key t.keys : Nat) ∧ wc = w2)
  case first =>
    go_wp2_with fail
    go_loopg [8] t.keys.length (fun g i wr => ∃ k : Nat, k ≤ insAt key t.keys ∧ g = t.keys.length - k ∧ i = .int .i64 k ∧ wr = w2)
    case atStart => exact ⟨0, Nat.zero_le _, rfl, rfl, rfl⟩
    case round =>
      obtain ⟨k, hk, hgk, rfl, rfl⟩ := hrel
      have GK := hidI hgk
      have hia := insAt_le key t.keys
      clear hgk
      by_cases hlt : k < t.keys.length
      · obtain ⟨_, K4⟩ := KK.out.2.2.2.1
        rcases K4 with ⟨e, _⟩ | ⟨kb, ko, kc, hks, hc1, hc2, hcs⟩
        · rw [e] at hlt; simp at hlt
        simp only [Value.slice.injEq] at hks
        obtain ⟨rfl, -, rfl⟩ := hks
        have hc := cell_bel B2.out (hcs k t.keys[k] (List.getElem?_eq_getElem hlt)).2.2
        clear hcs
        unfold str at hc
        cases hless : Op.bytesLess t.keys[k] key with
        | true =>
          have hk1 : k < insAt key t.keys := insAt_step (List.getElem?_eq_getElem hlt) hk hless
          go_wp2_with fail
          go_roundg (t.keys.length - (k + 1))
          case measure => rw [GK.out]; omega
          case rel => exact ⟨k + 1, hk1, rfl, by go_num, rfl⟩
        | false =>
          have hk1 : k = insAt key t.keys := insAt_end (List.getElem?_eq_getElem hlt) hk hless
          have HK1 := hidI hk1
          clear hk1
          go_wp2_with fail
          go_meet
          case rel => exact ⟨by rw [← HK1.out], rfl⟩
      · have hk1 : k = insAt key t.keys := by omega
        have HK1 := hidI hk1
        clear hk1
        go_wp2_with fail
        go_meet
        case rel => exact ⟨by rw [← HK1.out], rfl⟩
  case rest =>
    obtain ⟨rfl, hw⟩ := hcut
    have hw' := hw.symm
    clear hw
    subst hw'
    have hia := insAt_le key t.keys
    obtain ⟨at_, hat⟩ : ∃ a, insAt key t.keys = a := ⟨_, rfl⟩
    rw [hat] at hia ⊢
    have HAT := hidI hat
    clear hat
    have j0 : (0 : Int) ≤ (at_ : Int) := by omega
    have j1 : (at_ : Int) ≤ (t.keys.length : Int) := by omega
    have j2 : (at_ : Int) ≤ (t.l.length : Int) := by omega
    have fin10 : Hid (∀ w3 g cap, w3.ownsRow w2.heap.size 9 1 (.slice (some ⟨g, 0, none⟩) (t.keys.length + 1) cap) (t.keys.length + 1) ((t.keys.take at_).map str ++ [.string ⟨key.toArray⟩] ++ (t.keys.drop at_).map str) → Below w2.heap.size w2 w3 →
        MidI w w2 t x key at_ a2 a7 a8 c2 c7 c8 (w3.setCell ⟨w.heap.size, 3, none⟩ (.slice (some ⟨g, 0, none⟩) (t.keys.length + 1) cap))) := by
      intro w3 g cap ho hb
      have g1 : w3.grownBy (w3.setCell ⟨w.heap.size, 3, none⟩ (.slice (some ⟨g, 0, none⟩) (t.keys.length + 1) cap)) (some w.heap.size) := gb_set (gb_refl _ _) _ _
      refine ⟨g, cap, box_set3 (box_bel hb bx2.out.1) _, (box_bel hb bx2.out.2.1).grown g1 (by simp), (box_bel hb bx2.out.2.2).grown g1 (by simp), own_kept' ho g1 (by omega), ?_, Nat.le_trans hb.size g1.size⟩
      exact gb_none (gb_setA (gb_below (bel_trans B2.out hb)) (Nat.le_refl _) _ _)
    go_upto_region 10 with fail
    go_cut [8] (fun i wc' => i = .int .i64 (at_ : Nat) ∧ MidI w w2 t x key at_ a2 a7 a8 c2 c7 c8 wc')
    case first =>
      have k3 : ∀ o, (w2.alloc o).cell? ⟨w.heap.size, 3, none⟩ = some (.slice a1 t.keys.length c1) := fun o => (box_bel (bel_alloc w2 o) bx2.out.1).c.2.2.2.1
      obtain ⟨_, K4⟩ := KK.out.2.2.2.1
      rcases K4 with ⟨e, e2⟩ | ⟨kb, ko, kc, hks, hc1, hc2, hcs⟩
      · obtain ⟨a0, e2⟩ := e2
        simp only [Value.slice.injEq] at e2
        obtain ⟨-, e3, e6⟩ := e2
        subst e6
        have E3 : Hid (t.keys.length = 0 ∧ t.keys = []) := ⟨e3, e⟩
        have j4 : (t.keys.length : Int) ≤ 0 := by omega
        have e7 : at_ = 0 := by omega
        clear e e3
        subst e7
        have con : Hid (∀ W, W.heap = ((w2.alloc (.cells #[.string ⟨key.toArray⟩] 9)).alloc (.cells #[.slice a1 0 0, .slice (some ⟨w2.heap.size, 0, none⟩) 1 1, .slice a1 t.keys.length 0] 22)).heap → W.os = w2.os → W.tape = w2.tape → W.output = w2.output →
            Calls Tryz.prog 123 #[.slice (some ⟨w2.heap.size + 1, 0, none⟩) 3 3] W fun e w' => ∃ g cap, e = .returned (.slice (some ⟨g, 0, none⟩) (t.keys.length + 1) cap) ∧ w'.ownsRow w2.heap.size 9 1 (.slice (some ⟨g, 0, none⟩) (t.keys.length + 1) cap) (t.keys.length + 1) ((t.keys.take 0).map str ++ [.string ⟨key.toArray⟩] ++ (t.keys.drop 0).map str) ∧ Below w2.heap.size w2 w') := by
          intro W e1 e2 e4 e5
          obtain ⟨q1, q2⟩ := E3.out
          rw [q1] at e1
          rw [q2]
          simp only [List.take_nil, List.drop_nil, List.map_nil, List.length_nil]
          exact conS3 ⟨key.toArray⟩ (slnil w2 1 a1) (slnil w2 1 a1) rfl (by simp) W e1 e2 e4 e5
        go_region_with ((go_at_call 123; refine (con.out _ (by rfl) (by rfl) (by rfl) (by rfl)).mono ?_; rintro e w3 ⟨g, cap, rfl, ho3, hb3⟩; obtain ⟨p0, p1, p2, p3, p4, -, -, -, p9, p10⟩ := (box_bel hb3 bx2.out.1).c; have O3 := hidI ho3; have HB3 := hidI hb3; clear ho3 hb3))
        all_goals
          go_wp2_with fail
          go_meet
          case rel => exact ⟨rfl, fin10.out _ _ _ O3.out HB3.out⟩
      · simp only [Value.slice.injEq] at hks
        obtain ⟨rfl, -, rfl⟩ := hks
        clear hcs
        unfold maxLen at hc2
        have j3 : (at_ : Int) ≤ (c1 : Int) := by omega
        have j4 : (t.keys.length : Int) ≤ (c1 : Int) := by omega
        obtain ⟨s1, s2⟩ := ss_parts KK.out.2.2.2.1 at_ at_ (Nat.le_refl _) hia (by omega)
        obtain ⟨a3, hifs⟩ : ∃ a3, (if c1 = at_ then (some ⟨kb, ko, none⟩ : Option Addr) else some ⟨kb, ko + at_, none⟩) = a3 := ⟨_, rfl⟩
        rw [Nat.mul_one, hifs] at s2
        have con : Hid (∀ W, W.heap = ((w2.alloc (.cells #[.string ⟨key.toArray⟩] 9)).alloc (.cells #[.slice (some ⟨kb, ko, none⟩) at_ c1, .slice (some ⟨w2.heap.size, 0, none⟩) 1 1, .slice a3 (t.keys.length - at_) (c1 - at_)] 22)).heap → W.os = w2.os → W.tape = w2.tape → W.output = w2.output →
            Calls Tryz.prog 123 #[.slice (some ⟨w2.heap.size + 1, 0, none⟩) 3 3] W fun e w' => ∃ g cap, e = .returned (.slice (some ⟨g, 0, none⟩) (t.keys.length + 1) cap) ∧ w'.ownsRow w2.heap.size 9 1 (.slice (some ⟨g, 0, none⟩) (t.keys.length + 1) cap) (t.keys.length + 1) ((t.keys.take at_).map str ++ [.string ⟨key.toArray⟩] ++ (t.keys.drop at_).map str) ∧ Below w2.heap.size w2 w') := by
          intro W e1 e2 e4 e5
          exact conS3 ⟨key.toArray⟩ (s1.bel B2.out) (s2.bel B2.out) (by omega) (by omega) W e1 e2 e4 e5
        clear s1 s2
        go_region_with ((go_at_call 123; refine (con.out _ (by rfl) (by rfl) (by rfl) (by rfl)).mono ?_; rintro e w3 ⟨g, cap, rfl, ho3, hb3⟩; obtain ⟨p0, p1, p2, p3, p4, -, -, -, p9, p10⟩ := (box_bel hb3 bx2.out.1).c; have O3 := hidI ho3; have HB3 := hidI hb3; clear ho3 hb3))
        all_goals
          go_wp2_with fail
          go_meet
          case rel => exact ⟨rfl, fin10.out _ _ _ O3.out HB3.out⟩
    case rest =>
      obtain ⟨rfl, gk, kcap, hm1, hm2, hm3, hm4, hm5, hm6⟩ := hcut
      have M : Hid (BoxIs wc w.heap.size (.int .i64 t.kind) (.int .i64 t.n) (.string ⟨t.s.toArray⟩) (.slice (some ⟨gk, 0, none⟩) (t.keys.length + 1) kcap) (.slice a2 t.l.length c2) ∧ BoxIs wc (w.heap.size + 1) (.int .i64 x.kind) (.int .i64 x.n) (.string ⟨x.s.toArray⟩) (.slice a7 x.keys.length c7) (.slice a8 x.l.length c8) ∧ BoxIs wc (w.heap.size + 2) (.int .i64 0) (.int .i64 0) (.string ⟨#[]⟩) (.slice none 0 0) (.slice none 0 0) ∧ wc.ownsRow w2.heap.size 9 1 (.slice (some ⟨gk, 0, none⟩) (t.keys.length + 1) kcap) (t.keys.length + 1) ((t.keys.take at_).map str ++ [str key] ++ (t.keys.drop at_).map str) ∧ Below w.heap.size w wc ∧ w2.heap.size ≤ wc.heap.size) := ⟨hm1, hm2, hm3, hm4, hm5, hm6⟩
      clear hm1 hm2 hm3 hm4 hm5 fin10 p0 p1 p2 p3 p4 p9 p10 q0 q1 q2 q3 q4
      obtain ⟨p0, p1, p2, p3, p4, -, -, -, p9, p10⟩ := M.out.1.c
      obtain ⟨q0, q1, q2, q3, q4, -⟩ := M.out.2.1.c
      have k4 : ∀ o, (wc.alloc o).cell? ⟨w.heap.size, 4, none⟩ = some (.slice a2 t.l.length c2) := fun o => (box_bel (bel_alloc wc o) M.out.1).c.2.2.2.2.1
      have m0 : ∀ o, (wc.alloc o).cell? ⟨w.heap.size + 1, 0, none⟩ = some (.int .i64 x.kind) := fun o => (box_bel (bel_alloc wc o) M.out.2.1).c.1
      have m1 : ∀ o, (wc.alloc o).cell? ⟨w.heap.size + 1, 1, none⟩ = some (.int .i64 x.n) := fun o => (box_bel (bel_alloc wc o) M.out.2.1).c.2.1
      have m2 : ∀ o, (wc.alloc o).cell? ⟨w.heap.size + 1, 2, none⟩ = some (.string ⟨x.s.toArray⟩) := fun o => (box_bel (bel_alloc wc o) M.out.2.1).c.2.2.1
      have m3 : ∀ o, (wc.alloc o).cell? ⟨w.heap.size + 1, 3, none⟩ = some (.slice a7 x.keys.length c7) := fun o => (box_bel (bel_alloc wc o) M.out.2.1).c.2.2.2.1
      have m4 : ∀ o, (wc.alloc o).cell? ⟨w.heap.size + 1, 4, none⟩ = some (.slice a8 x.l.length c8) := fun o => (box_bel (bel_alloc wc o) M.out.2.1).c.2.2.2.2.1
      have hrows : ∃ cs1 cs2 v1 v3, RowV (VIs w ok d) (t.l.take at_) cs1 ∧ RowV (VIs w ok d) (t.l.drop at_) cs2 ∧ SlIs w 5 v1 at_ cs1 ∧ SlIs w 5 v3 (t.l.length - at_) cs2 ∧ (c2 = 0 ∧ t.l.length = 0 ∧ v1 = .slice a2 0 0 ∧ v3 = .slice a2 t.l.length 0 ∨ ∃ b off, a2 = some ⟨b, off, none⟩ ∧ t.l.length ≤ c2 ∧ c2 ≤ maxLen ∧ v1 = .slice (some ⟨b, off, none⟩) at_ c2 ∧ v3 = .slice (if c2 = at_ then some ⟨b, off, none⟩ else some ⟨b, off + at_ * 5, none⟩) (t.l.length - at_) (c2 - at_)) := by
        obtain ⟨_, K5⟩ := KK.out.2.2.2.2
        rcases K5 with ⟨e, e2⟩ | ⟨b, off, c, hls, hc1, hc2, hcs⟩
        · obtain ⟨a0, e2⟩ := e2
          simp only [Value.slice.injEq] at e2
          obtain ⟨-, e3, e6⟩ := e2
          subst e6
          have e4 : at_ = 0 := by omega
          refine ⟨[], [], _, _, ?_, ?_, ?_, ?_, .inl ⟨rfl, e3, rfl, rfl⟩⟩
          · rw [e, List.take_nil]; rfl
          · rw [e, List.drop_nil]; rfl
          · rw [e4]; exact slnil w 5 a2
          · rw [e3, e4]; exact slnil w 5 a2
        · simp only [Value.slice.injEq] at hls
          obtain ⟨rfl, -, rfl⟩ := hls
          obtain ⟨cs1, cs2, r1, s1, r2, s2⟩ := sl_parts KK.out.2.2.2.2 at_ at_ (Nat.le_refl _) (by omega) (by omega)
          exact ⟨cs1, cs2, _, _, r1, r2, s1, s2, .inr ⟨b, off, rfl, hc1, hc2, rfl, rfl⟩⟩
      obtain ⟨cs1, cs2, v1, v3, r1, r2, s1, s3, hcase⟩ := hrows
      have con : Hid (∀ W, W.heap = ((wc.alloc (.cells #[.int .i64 x.kind, .int .i64 x.n, .string ⟨x.s.toArray⟩, .slice a7 x.keys.length c7, .slice a8 x.l.length c8] 25)).alloc (.cells #[v1, .slice (some ⟨wc.heap.size, 0, none⟩) 1 1, v3] 23)).heap → W.os = wc.os → W.tape = wc.tape → W.output = wc.output →
            Calls Tryz.prog 79 #[.slice (some ⟨wc.heap.size + 1, 0, none⟩) 3 3] W fun e w' => ∃ g cap, e = .returned (.slice (some ⟨g, 0, none⟩) (t.l.length + 1) cap) ∧ w'.ownsRow wc.heap.size 25 5 (.slice (some ⟨g, 0, none⟩) (t.l.length + 1) cap) (t.l.length + 1) (cs1 ++ [.int .i64 x.kind, .int .i64 x.n, .string ⟨x.s.toArray⟩, .slice a7 x.keys.length c7, .slice a8 x.l.length c8] ++ cs2) ∧ Below wc.heap.size wc w') := by
        intro W e1 e2 e4 e5
        exact conV3 _ _ _ _ _ _ _ _ _ (s1.bel M.out.2.2.2.2.1) (s3.bel M.out.2.2.2.2.1) (by omega) (by omega) W e1 e2 e4 e5
      have fin : Hid (∀ w3 g cap, w3.ownsRow wc.heap.size 25 5 (.slice (some ⟨g, 0, none⟩) (t.l.length + 1) cap) (t.l.length + 1) (cs1 ++ [.int .i64 x.kind, .int .i64 x.n, .string ⟨x.s.toArray⟩, .slice a7 x.keys.length c7, .slice a8 x.l.length c8] ++ cs2) → Below wc.heap.size wc w3 →
          VIs (set5 (w3.setCell ⟨w.heap.size, 4, none⟩ (.slice (some ⟨g, 0, none⟩) (t.l.length + 1) cap)) (w.heap.size + 2) (.int .i64 t.kind) (.int .i64 t.n) (.string ⟨t.s.toArray⟩) (.slice (some ⟨gk, 0, none⟩) (t.keys.length + 1) kcap) (.slice (some ⟨g, 0, none⟩) (t.l.length + 1) cap)) (okN ok w.heap.size) (d + 1) { t with keys := t.keys.take at_ ++ key :: t.keys.drop at_, l := t.l.take at_ ++ x :: t.l.drop at_ } (.agg #[.int .i64 t.kind, .int .i64 t.n, .string ⟨t.s.toArray⟩, .slice (some ⟨gk, 0, none⟩) (t.keys.length + 1) kcap, .slice (some ⟨g, 0, none⟩) (t.l.length + 1) cap]) ∧
          Below w.heap.size w (set5 (w3.setCell ⟨w.heap.size, 4, none⟩ (.slice (some ⟨g, 0, none⟩) (t.l.length + 1) cap)) (w.heap.size + 2) (.int .i64 t.kind) (.int .i64 t.n) (.string ⟨t.s.toArray⟩) (.slice (some ⟨gk, 0, none⟩) (t.keys.length + 1) kcap) (.slice (some ⟨g, 0, none⟩) (t.l.length + 1) cap)) ∧ BoxIs (set5 (w3.setCell ⟨w.heap.size, 4, none⟩ (.slice (some ⟨g, 0, none⟩) (t.l.length + 1) cap)) (w.heap.size + 2) (.int .i64 t.kind) (.int .i64 t.n) (.string ⟨t.s.toArray⟩) (.slice (some ⟨gk, 0, none⟩) (t.keys.length + 1) kcap) (.slice (some ⟨g, 0, none⟩) (t.l.length + 1) cap)) (w.heap.size + 2) (.int .i64 t.kind) (.int .i64 t.n) (.string ⟨t.s.toArray⟩) (.slice (some ⟨gk, 0, none⟩) (t.keys.length + 1) kcap) (.slice (some ⟨g, 0, none⟩) (t.l.length + 1) cap)) := by
        intro w3 g cap ho hb
        have g1 : w3.grownBy (w3.setCell ⟨w.heap.size, 4, none⟩ (.slice (some ⟨g, 0, none⟩) (t.l.length + 1) cap)) (some w.heap.size) := gb_set (gb_refl _ _) _ _
        have g2 := set5_gb (w3.setCell ⟨w.heap.size, 4, none⟩ (.slice (some ⟨g, 0, none⟩) (t.l.length + 1) cap)) (w.heap.size + 2) (.int .i64 t.kind) (.int .i64 t.n) (.string ⟨t.s.toArray⟩) (.slice (some ⟨gk, 0, none⟩) (t.keys.length + 1) kcap) (.slice (some ⟨g, 0, none⟩) (t.l.length + 1) cap)
        have hbx := ((box_bel hb M.out.2.2.1).grown g1 (by simp)).set (.int .i64 t.kind) (.int .i64 t.n) (.string ⟨t.s.toArray⟩) (.slice (some ⟨gk, 0, none⟩) (t.keys.length + 1) kcap) (.slice (some ⟨g, 0, none⟩) (t.l.length + 1) cap)
        have hbw : Below w.heap.size w w3 := bel_trans M.out.2.2.2.2.1 hb
        have hb9 : Below w.heap.size w (set5 (w3.setCell ⟨w.heap.size, 4, none⟩ (.slice (some ⟨g, 0, none⟩) (t.l.length + 1) cap)) (w.heap.size + 2) (.int .i64 t.kind) (.int .i64 t.n) (.string ⟨t.s.toArray⟩) (.slice (some ⟨gk, 0, none⟩) (t.keys.length + 1) kcap) (.slice (some ⟨g, 0, none⟩) (t.l.length + 1) cap)) := gb_none (gb_set5 (gb_setA (gb_below hbw) (Nat.le_refl _) _ _) (by omega) _ _ _ _ _)
        have hsz3 : w.heap.size + 2 < w2.heap.size := hsz2
        refine ⟨⟨_, _, rfl, KK.out.1, KK.out.2.1, KK.out.2.2.1, ?_, ?_⟩, hb9, hbx⟩
        · have hk3 := own_kept' (own_kept' (own_bel M.out.2.2.2.1 hb) g1 (by omega)) g2 (by omega)
          have hlen : t.keys.length + 1 = (t.keys.take at_ ++ key :: t.keys.drop at_).length := by simp; omega
          refine own_strs (B := w2.heap.size) hlen ?_ ?_ (fun k hk => .inr (by omega)) (by rw [← hlen]; unfold maxLen; omega)
          · have e9 : (t.keys.take at_ ++ key :: t.keys.drop at_).map str = (t.keys.take at_).map str ++ [str key] ++ (t.keys.drop at_).map str := by simp
            rw [e9]; exact hk3
          · intro y hy
            simp only [List.mem_append, List.mem_cons] at hy
            rcases hy with hy | rfl | hy
            · exact KK.out.2.2.2.1.mem y (List.mem_of_mem_take hy)
            · exact hkey
            · exact KK.out.2.2.2.1.mem y (List.mem_of_mem_drop hy)
        · have ho9 := own_kept' (own_kept' ho g1 (by omega)) g2 (by omega)
          have hlen : t.l.length + 1 = (t.l.take at_ ++ x :: t.l.drop at_).length := by simp; omega
          refine own_vals hlen ho9 ?_ (fun k hk => .inr (by omega)) (by rw [← hlen]; unfold maxLen; omega)
          have rx : RowV (VIs _ (okN ok w.heap.size) d) [x] [.int .i64 x.kind, .int .i64 x.n, .string ⟨x.s.toArray⟩, .slice a7 x.keys.length c7, .slice a8 x.l.length c8] := ⟨_, _, _, _, _, [], rfl, (HX.out.bel hb9).toN, rfl⟩
          have := ((r2.bel (B := w.heap.size) hb9).append rx).append (r1.bel (B := w.heap.size) hb9)
          rw [List.append_assoc]
          exact this
      clear r1 r2 s1 s3
      have hfinish : Hid True := trivial
      rcases hcase with ⟨rfl, e3, rfl, rfl⟩ | ⟨b, off, rfl, hc1, hc2, rfl, hv3⟩
      · have j6 : (t.l.length : Int) ≤ 0 := by omega
        have E3 := hidI e3
        have e7 : at_ = 0 := by omega
        clear e3
        subst e7
        go_upto_region 11 with fail
        go_region_with ((go_at_call 79; refine (con.out _ (by rfl) (by rfl) (by rfl) (by rfl)).mono ?_; rintro e w3 ⟨g, cap, rfl, ho3, hb3⟩; obtain ⟨p0, p1, p2, p3, p4, -, -, -, p9, p10⟩ := (box_bel hb3 M.out.1).c; obtain ⟨x0, x1, x2, x3, x4, y0, y1, y2, y3, y4⟩ := (box_bel hb3 M.out.2.2.1).c; have O3 := hidI ho3; have HB3 := hidI hb3; clear ho3 hb3))
        all_goals
          go_wp2_with fail
          obtain ⟨f1, f2, f3⟩ := fin.out _ g cap O3.out HB3.out
          obtain ⟨z0, z1, z2, z3, z4, -⟩ := f3.c
          refine bodyPost_ret (v := .agg #[.int .i64 t.kind, .int .i64 t.n, .string ⟨t.s.toArray⟩, .slice (some ⟨gk, 0, none⟩) (t.keys.length + 1) kcap, .slice (some ⟨g, 0, none⟩) (t.l.length + 1) cap]) ?_ rfl ?_
          · simp only [set5] at z0 z1 z2 z3 z4
            simp [results, Tryz.results78, go_sem, z0, z1, z2, z3, z4]
          · rw [HAT.out]
            exact ⟨_, rfl, f1, f2⟩
      · obtain ⟨a3, hifs⟩ : ∃ a3, (if c2 = at_ then (some ⟨b, off, none⟩ : Option Addr) else some ⟨b, off + at_ * 5, none⟩) = a3 := ⟨_, rfl⟩
        rw [hifs] at hv3
        subst hv3
        unfold maxLen at hc2
        have j5 : (at_ : Int) ≤ (c2 : Int) := by omega
        have j6 : (t.l.length : Int) ≤ (c2 : Int) := by omega
        go_upto_region 11 with fail
        go_region_with ((go_at_call 79; refine (con.out _ (by rfl) (by rfl) (by rfl) (by rfl)).mono ?_; rintro e w3 ⟨g, cap, rfl, ho3, hb3⟩; obtain ⟨p0, p1, p2, p3, p4, -, -, -, p9, p10⟩ := (box_bel hb3 M.out.1).c; obtain ⟨x0, x1, x2, x3, x4, y0, y1, y2, y3, y4⟩ := (box_bel hb3 M.out.2.2.1).c; have O3 := hidI ho3; have HB3 := hidI hb3; clear ho3 hb3))
        all_goals
          go_wp2_with fail
          obtain ⟨f1, f2, f3⟩ := fin.out _ g cap O3.out HB3.out
          obtain ⟨z0, z1, z2, z3, z4, -⟩ := f3.c
          refine bodyPost_ret (v := .agg #[.int .i64 t.kind, .int .i64 t.n, .string ⟨t.s.toArray⟩, .slice (some ⟨gk, 0, none⟩) (t.keys.length + 1) kcap, .slice (some ⟨g, 0, none⟩) (t.l.length + 1) cap]) ?_ rfl ?_
          · simp only [set5] at z0 z1 z2 z3 z4
            simp [results, Tryz.results78, go_sem, z0, z1, z2, z3, z4]
          · have hat := HAT.out
            subst hat
            exact ⟨_, rfl, f1, f2⟩
end Go.Proofs.YtmdemcjmcnfjmaaGreatDoor

/- What is said of With. -/
set_option linter.unusedSimpArgs false
set_option linter.unusedVariables false
namespace Go.Proofs.YtmdemcjmcnfjmaaGreatDoor
open Go.RowKit

/- What is said of With. -/
def WithC : Prop := ∀ (w : World) (ok : Nat → Prop) (d : Nat) (t x : V) (v xv : Value) (key : List UInt8), VIs w ok (d + 1) t v → VIs w ok d x xv → pairedV t = true → t.l.length ≤ 100000 → key.length ≤ maxLen →
    Calls Tryz.prog 78 #[v, str key, xv] w fun e w' => ∃ r, e = .returned r ∧ VIs w' (okN ok w.heap.size) (d + 1) (withV t key x) r ∧ Below w.heap.size w w'

end Go.Proofs.YtmdemcjmcnfjmaaGreatDoor

/- What With of package json does. -/
set_option linter.unusedSimpArgs false
set_option linter.unusedVariables false
namespace Go.Proofs.YtmdemcjmcnfjmaaGreatDoor
open Go.RowKit

theorem with_all : WithC := by
  intro w ok d t x v xv key h hx hp hsz hkey
  have hk : findV t key = idxL key t.keys := by simp [findV, hp]
  cases hf : findV t key with
  | some i =>
    have e : withV t key x = { t with l := t.l.take i ++ x :: t.l.drop (i + 1) } := by
      unfold withV
      rw [if_pos hp, ← hk, hf]
    rw [e]
    exact with_found w ok d t x v xv key i h hx hf hsz
  | none =>
    have e : withV t key x = { t with keys := t.keys.take (insAt key t.keys) ++ key :: t.keys.drop (insAt key t.keys), l := t.l.take (insAt key t.keys) ++ x :: t.l.drop (insAt key t.keys) } := by
      unfold withV
      rw [if_pos hp, ← hk, hf]
      rfl
    rw [e]
    exact with_new w ok d t x v xv key h hx hf hp hsz hkey
end Go.Proofs.YtmdemcjmcnfjmaaGreatDoor

/- What Without of package json does. -/
set_option linter.unusedSimpArgs false
set_option linter.unusedVariables false
namespace Go.Proofs.YtmdemcjmcnfjmaaGreatDoor
open Go.RowKit
attribute [local go_sem ↓] Go.wp_at_zero Go.wp_at_succ

/- Concat of two parts, out of one new block. -/
theorem conS2 {w2 : World} {v1 v3 : Value} {n1 n3 N : Nat} {cs1 cs3 : List Value} (s1 : SlIs w2 1 v1 n1 cs1) (s3 : SlIs w2 1 v3 n3 cs3) (hN : n1 + n3 = N) (hn : N ≤ 1000000) (W : World)
    (e1 : W.heap = (w2.alloc (.cells #[v1, v3] 22)).heap) (e2 : W.os = w2.os) (e3 : W.tape = w2.tape) (e4 : W.output = w2.output) :
    Calls Tryz.prog 123 #[.slice (some ⟨w2.heap.size, 0, none⟩) 2 2] W fun e w' => ∃ a cap, e = .returned (.slice a N cap) ∧ w'.ownsRow w2.heap.size 9 1 (.slice a N cap) N (cs1 ++ cs3) ∧ Below w2.heap.size w2 w' := by
  have hbW : Below w2.heap.size w2 W := by
    have := bel_alloc w2 (.cells #[v1, v3] 22)
    exact ⟨e2, e3, e4, by rw [e1]; exact this.size, fun k hk => by rw [e1]; exact this.block k hk⟩
  have hb := heap_alloc_new w2 (.cells #[v1, v3] 22)
  rw [← e1] at hb
  refine (concatS W w2.heap.size 0 2 [⟨v1, n1, cs1⟩, ⟨v3, n3, cs3⟩] ?_ (by simp [sumN]; omega) (by simp) (by simp)).mono ?_
  · intro i p hp
    match i, hp with
    | 0, hp => simp at hp; subst hp; exact ⟨by simp [World.cell?, hb], s1.bel hbW⟩
    | 1, hp => simp at hp; subst hp; exact ⟨by simp [World.cell?, hb], s3.bel hbW⟩
  rintro e w' ⟨v, rfl, ho, hb9⟩
  have q1 : sumN [⟨v1, n1, cs1⟩, ⟨v3, n3, cs3⟩] = N := by simp [sumN]; omega
  have q2 : allC [⟨v1, n1, cs1⟩, ⟨v3, n3, cs3⟩] = cs1 ++ cs3 := by simp [allC]
  rw [q1, q2] at ho
  have ho' := own_base ho hbW.size
  rcases ho'.2 with ⟨e, h0⟩ | ⟨g, cap, cur, e, rest⟩
  · subst e
    subst h0
    exact ⟨none, 0, rfl, ho', bel_trans hbW hb9⟩
  · subst e
    exact ⟨_, cap, rfl, ho', bel_trans hbW hb9⟩
theorem conV2 {w2 : World} {v1 v3 : Value} {n1 n3 N : Nat} {cs1 cs3 : List Value} (s1 : SlIs w2 5 v1 n1 cs1) (s3 : SlIs w2 5 v3 n3 cs3) (hN : n1 + n3 = N) (hn : N ≤ 1000000) (W : World)
    (e1 : W.heap = (w2.alloc (.cells #[v1, v3] 23)).heap) (e2 : W.os = w2.os) (e3 : W.tape = w2.tape) (e4 : W.output = w2.output) :
    Calls Tryz.prog 79 #[.slice (some ⟨w2.heap.size, 0, none⟩) 2 2] W fun e w' => ∃ a cap, e = .returned (.slice a N cap) ∧ w'.ownsRow w2.heap.size 25 5 (.slice a N cap) N (cs1 ++ cs3) ∧ Below w2.heap.size w2 w' := by
  have hbW : Below w2.heap.size w2 W := by
    have := bel_alloc w2 (.cells #[v1, v3] 23)
    exact ⟨e2, e3, e4, by rw [e1]; exact this.size, fun k hk => by rw [e1]; exact this.block k hk⟩
  have hb := heap_alloc_new w2 (.cells #[v1, v3] 23)
  rw [← e1] at hb
  refine (concatV W w2.heap.size 0 2 [⟨v1, n1, cs1⟩, ⟨v3, n3, cs3⟩] ?_ (by simp [sumN]; omega) (by simp) (by simp)).mono ?_
  · intro i p hp
    match i, hp with
    | 0, hp => simp at hp; subst hp; exact ⟨by simp [World.cell?, hb], s1.bel hbW⟩
    | 1, hp => simp at hp; subst hp; exact ⟨by simp [World.cell?, hb], s3.bel hbW⟩
  rintro e w' ⟨v, rfl, ho, hb9⟩
  have q1 : sumN [⟨v1, n1, cs1⟩, ⟨v3, n3, cs3⟩] = N := by simp [sumN]; omega
  have q2 : allC [⟨v1, n1, cs1⟩, ⟨v3, n3, cs3⟩] = cs1 ++ cs3 := by simp [allC]
  rw [q1, q2] at ho
  have ho' := own_base ho hbW.size
  rcases ho'.2 with ⟨e, h0⟩ | ⟨g, cap, cur, e, rest⟩
  · subst e
    subst h0
    exact ⟨none, 0, rfl, ho', bel_trans hbW hb9⟩
  · subst e
    exact ⟨_, cap, rfl, ho', bel_trans hbW hb9⟩

/- Behind the keys' Concat. -/
def MidO (w w2 : World) (t : V) (i : Nat) (a2 : Option Addr) (c2 : Nat) (wc : World) : Prop :=
  ∃ a9 c9, BoxIs wc w.heap.size (.int .i64 t.kind) (.int .i64 t.n) (.string ⟨t.s.toArray⟩) (.slice a9 (t.keys.length - 1) c9) (.slice a2 t.l.length c2) ∧
    BoxIs wc (w.heap.size + 1) (.int .i64 0) (.int .i64 0) (.string ⟨#[]⟩) (.slice none 0 0) (.slice none 0 0) ∧
    wc.ownsRow w2.heap.size 9 1 (.slice a9 (t.keys.length - 1) c9) (t.keys.length - 1) ((t.keys.take i).map str ++ (t.keys.drop (i + 1)).map str) ∧
    Below w.heap.size w wc ∧ w2.heap.size ≤ wc.heap.size

set_option maxRecDepth 100000 in
set_option maxHeartbeats 1000000 in
theorem without_none (w : World) (ok : Nat → Prop) (d : Nat) (t : V) (v : Value) (key : List UInt8) (h : VIs w ok (d + 1) t v) (hf : findV t key = none) :
    Calls Tryz.prog 87 #[v, str key] w fun e w' => ∃ r, e = .returned r ∧ VIs w' (okN ok w.heap.size) (d + 1) t r ∧ Below w.heap.size w w' := by
  have H := hidI h
  obtain ⟨ks, ls, rfl, h1, h2, h3, h4, h5⟩ := h
  obtain ⟨a1, c1, rfl⟩ := h4.form
  obtain ⟨a2, c2, rfl⟩ := h5.form
  have l1 := h4.1
  have l2 := h5.1
  have F := hidI hf
  clear hf
  unfold maxLen at l1 h3 l2
  unfold str
  clear h4 h5 h1 h2
  go_enter Tryz.func87, Tryz.ntmps87
  go_wp2_with fail
  refine (find_at _ ok _ t _ key (by exact H.out.bel (bel_trans (bel_alloc _ _) (bel_alloc _ _)))).mono ?_
  rintro e w2 ⟨rfl, hb2⟩
  rw [F.out]
  have bx2 : Hid (BoxIs w2 w.heap.size (.int .i64 t.kind) (.int .i64 t.n) (.string ⟨t.s.toArray⟩) (.slice a1 t.keys.length c1) (.slice a2 t.l.length c2) ∧ BoxIs w2 (w.heap.size + 1) (.int .i64 0) (.int .i64 0) (.string ⟨#[]⟩) (.slice none 0 0) (.slice none 0 0)) := ⟨box_bel hb2 (h2a w _ _), box_bel hb2 (h2b w _ _)⟩
  have B2 : Hid (Below w.heap.size w w2) := bel_trans (bel_trans (bel_alloc _ _) (bel_alloc _ _)) hb2
  clear hb2
  unfold optI
  obtain ⟨p0, p1, p2, p3, p4, -⟩ := bx2.out.1.c
  obtain ⟨x0, x1, x2, x3, x4, y0, y1, y2, y3, y4⟩ := bx2.out.2.c
  obtain ⟨z0, z1, z2, z3, z4, -⟩ := (bx2.out.2.set (.int .i64 t.kind) (.int .i64 t.n) (.string ⟨t.s.toArray⟩) (.slice a1 t.keys.length c1) (.slice a2 t.l.length c2)).c
  have Z : Hid (_ ∧ _ ∧ _ ∧ _ ∧ _) := ⟨z0, z1, z2, z3, z4⟩
  clear z0 z1 z2 z3 z4
  go_wp2_with fail
  obtain ⟨z0, z1, z2, z3, z4⟩ := Z.out
  refine bodyPost_ret (v := .agg #[.int .i64 t.kind, .int .i64 t.n, .string ⟨t.s.toArray⟩, .slice a1 t.keys.length c1, .slice a2 t.l.length c2]) ?_ rfl ?_
  · simp only [set5] at z0 z1 z2 z3 z4
    simp [results, Tryz.results87, go_sem, z0, z1, z2, z3, z4]
  · have hb9 := gb_none (gb_set5 (gb_below (r := none) B2.out) (Nat.le_succ w.heap.size) (.int .i64 t.kind) (.int .i64 t.n) (.string ⟨t.s.toArray⟩) (.slice a1 t.keys.length c1) (.slice a2 t.l.length c2))
    exact ⟨_, rfl, (H.out.bel hb9).toN, hb9⟩

set_option maxRecDepth 100000 in
set_option maxHeartbeats 40000000 in
theorem without_found (w : World) (ok : Nat → Prop) (d : Nat) (t : V) (v : Value) (key : List UInt8) (i : Nat) (h : VIs w ok (d + 1) t v) (hf : findV t key = some i) (hsz : t.l.length ≤ 100000) :
    Calls Tryz.prog 87 #[v, str key] w fun e w' => ∃ r, e = .returned r ∧ VIs w' (okN ok w.heap.size) (d + 1) { t with keys := t.keys.take i ++ t.keys.drop (i + 1), l := t.l.take i ++ t.l.drop (i + 1) } r ∧ Below w.heap.size w w' := by
  have H := hidI h
  obtain ⟨ks, ls, rfl, h1, h2, h3, h4, h5⟩ := h
  have KK : Hid (I64 t.kind ∧ I64 t.n ∧ t.s.length ≤ maxLen ∧ StrsAre w ok t.keys ks ∧ ValsAre w ok (VIs w ok d) t.l ls) := ⟨h1, h2, h3, h4, h5⟩
  obtain ⟨f1, f2, f3, f4⟩ := findV_some hf
  have hkl : t.keys.length = t.l.length := by
    simp only [pairedV, Bool.and_eq_true, decide_eq_true_eq] at f1; exact f1.2
  have F := hidI hf
  have hkl1 : t.keys.length ≤ t.l.length := by omega
  have hkl2 : t.l.length ≤ t.keys.length := by omega
  clear hf f1 f2 f4 hkl
  obtain ⟨_, K4⟩ := h4
  rcases K4 with ⟨e, _⟩ | ⟨kb, ko, c1, hks, kc1, kc2, -⟩
  · have : t.keys.length = 0 := by rw [e]; rfl
    omega
  subst hks
  obtain ⟨_, K5⟩ := h5
  rcases K5 with ⟨e, _⟩ | ⟨b, off, c2, hls, hc1, hc2, -⟩
  · rw [e] at f3; simp at f3
  subst hls
  unfold maxLen at h3 hc2 kc2
  unfold str
  clear h1 h2
  have hsz2 : t.keys.length ≤ 100000 := by omega
  have hik : i < t.keys.length := by omega
  go_enter Tryz.func87, Tryz.ntmps87
  go_wp2_with fail
  refine (find_at _ ok _ t _ key (by exact H.out.bel (bel_trans (bel_alloc _ _) (bel_alloc _ _)))).mono ?_
  rintro e w2 ⟨rfl, hb2⟩
  rw [F.out]
  have bx2 : Hid (BoxIs w2 w.heap.size (.int .i64 t.kind) (.int .i64 t.n) (.string ⟨t.s.toArray⟩) (.slice (some ⟨kb, ko, none⟩) t.keys.length c1) (.slice (some ⟨b, off, none⟩) t.l.length c2) ∧ BoxIs w2 (w.heap.size + 1) (.int .i64 0) (.int .i64 0) (.string ⟨#[]⟩) (.slice none 0 0) (.slice none 0 0)) := ⟨box_bel hb2 (h2a w _ _), box_bel hb2 (h2b w _ _)⟩
  have B2 : Hid (Below w.heap.size w w2) := bel_trans (bel_trans (bel_alloc _ _) (bel_alloc _ _)) hb2
  have hsz3 : w.heap.size + 1 < w2.heap.size := bx2.out.2.lt
  clear hb2
  unfold optI
  obtain ⟨p0, p1, p2, p3, p4, -, -, -, p9, p10⟩ := bx2.out.1.c
  have i0 : 0 ≤ (i : Int) := by omega
  have i1 : (i : Int) ≤ (c1 : Int) := by omega
  have i2 : (i : Int) + 1 ≤ (t.keys.length : Int) := by omega
  have i3 : (t.keys.length : Int) ≤ (c1 : Int) := by omega
  have hw1 : IntKind.i64.wrap ((i : Int) + 1) = (i : Int) + 1 := by rw [IntKind.wrap_i64]; omega
  have i4 : (0 : Int) ≤ (i : Int) + 1 := by omega
  have j1 : (i : Int) ≤ (c2 : Int) := by omega
  have j2 : (i : Int) + 1 ≤ (t.l.length : Int) := by omega
  have j3 : (t.l.length : Int) ≤ (c2 : Int) := by omega
  have fin10 : Hid (∀ w3 a9 cap, w3.ownsRow w2.heap.size 9 1 (.slice a9 (t.keys.length - 1) cap) (t.keys.length - 1) ((t.keys.take i).map str ++ (t.keys.drop (i + 1)).map str) → Below w2.heap.size w2 w3 →
      MidO w w2 t i (some ⟨b, off, none⟩) c2 (w3.setCell ⟨w.heap.size, 3, none⟩ (.slice a9 (t.keys.length - 1) cap))) := by
    intro w3 a9 cap ho hb
    have g1 : w3.grownBy (w3.setCell ⟨w.heap.size, 3, none⟩ (.slice a9 (t.keys.length - 1) cap)) (some w.heap.size) := gb_set (gb_refl _ _) _ _
    refine ⟨a9, cap, box_set3 (box_bel hb bx2.out.1) _, (box_bel hb bx2.out.2).grown g1 (by simp), own_kept' ho g1 (by omega), ?_, Nat.le_trans hb.size g1.size⟩
    exact gb_none (gb_setA (gb_below (bel_trans B2.out hb)) (Nat.le_refl _) _ _)
  go_upto_region 4 with fail
  go_cut [5] (fun j wc' => j = .int .i64 (i : Nat) ∧ MidO w w2 t i (some ⟨b, off, none⟩) c2 wc')
  case first =>
    have k3 : ∀ o, (w2.alloc o).cell? ⟨w.heap.size, 3, none⟩ = some (.slice (some ⟨kb, ko, none⟩) t.keys.length c1) := fun o => (box_bel (bel_alloc w2 o) bx2.out.1).c.2.2.2.1
    obtain ⟨s1, s2⟩ := ss_parts KK.out.2.2.2.1 i (i + 1) (by omega) hik (by omega)
    obtain ⟨a3, hifs⟩ : ∃ a3, (if c1 = i + 1 then (some ⟨kb, ko, none⟩ : Option Addr) else some ⟨kb, ko + (i + 1), none⟩) = a3 := ⟨_, rfl⟩
    rw [Nat.mul_one, hifs] at s2
    have con : Hid (∀ W, W.heap = (w2.alloc (.cells #[.slice (some ⟨kb, ko, none⟩) i c1, .slice a3 (t.keys.length - (i + 1)) (c1 - (i + 1))] 22)).heap → W.os = w2.os → W.tape = w2.tape → W.output = w2.output →
        Calls Tryz.prog 123 #[.slice (some ⟨w2.heap.size, 0, none⟩) 2 2] W fun e w' => ∃ a9 cap, e = .returned (.slice a9 (t.keys.length - 1) cap) ∧ w'.ownsRow w2.heap.size 9 1 (.slice a9 (t.keys.length - 1) cap) (t.keys.length - 1) ((t.keys.take i).map str ++ (t.keys.drop (i + 1)).map str) ∧ Below w2.heap.size w2 w') := by
      intro W e1 e2 e4 e5
      exact conS2 (s1.bel B2.out) (s2.bel B2.out) (by omega) (by omega) W e1 e2 e4 e5
    clear s1 s2
    go_region_with ((go_at_call 123; refine (con.out _ (by rfl) (by rfl) (by rfl) (by rfl)).mono ?_; rintro e w3 ⟨a9, cap, rfl, ho3, hb3⟩; obtain ⟨p0, p1, p2, p3, p4, -, -, -, p9, p10⟩ := (box_bel hb3 bx2.out.1).c; have O3 := hidI ho3; have HB3 := hidI hb3; clear ho3 hb3))
    all_goals
      go_wp2_with fail
      go_meet
      case rel => exact ⟨rfl, fin10.out _ _ _ O3.out HB3.out⟩
  case rest =>
    obtain ⟨rfl, a9, kcap, hm1, hm2, hm3, hm4, hm5⟩ := hcut
    have M : Hid (BoxIs wc w.heap.size (.int .i64 t.kind) (.int .i64 t.n) (.string ⟨t.s.toArray⟩) (.slice a9 (t.keys.length - 1) kcap) (.slice (some ⟨b, off, none⟩) t.l.length c2) ∧ BoxIs wc (w.heap.size + 1) (.int .i64 0) (.int .i64 0) (.string ⟨#[]⟩) (.slice none 0 0) (.slice none 0 0) ∧ wc.ownsRow w2.heap.size 9 1 (.slice a9 (t.keys.length - 1) kcap) (t.keys.length - 1) ((t.keys.take i).map str ++ (t.keys.drop (i + 1)).map str) ∧ Below w.heap.size w wc ∧ w2.heap.size ≤ wc.heap.size) := ⟨hm1, hm2, hm3, hm4, hm5⟩
    clear hm1 hm2 hm3 hm4 fin10 p0 p1 p2 p3 p4 p9 p10
    obtain ⟨p0, p1, p2, p3, p4, -, -, -, p9, p10⟩ := M.out.1.c
    have k4 : ∀ o, (wc.alloc o).cell? ⟨w.heap.size, 4, none⟩ = some (.slice (some ⟨b, off, none⟩) t.l.length c2) := fun o => (box_bel (bel_alloc wc o) M.out.1).c.2.2.2.2.1
    obtain ⟨cs1, cs2, r1, s1, r2, s2⟩ := sl_parts KK.out.2.2.2.2 i (i + 1) (by omega) f3 (by omega)
    obtain ⟨a3, hifs⟩ : ∃ a3, (if c2 = i + 1 then (some ⟨b, off, none⟩ : Option Addr) else some ⟨b, off + (i + 1) * 5, none⟩) = a3 := ⟨_, rfl⟩
    rw [hifs] at s2
    have con : Hid (∀ W, W.heap = (wc.alloc (.cells #[.slice (some ⟨b, off, none⟩) i c2, .slice a3 (t.l.length - (i + 1)) (c2 - (i + 1))] 23)).heap → W.os = wc.os → W.tape = wc.tape → W.output = wc.output →
        Calls Tryz.prog 79 #[.slice (some ⟨wc.heap.size, 0, none⟩) 2 2] W fun e w' => ∃ a8 cap, e = .returned (.slice a8 (t.l.length - 1) cap) ∧ w'.ownsRow wc.heap.size 25 5 (.slice a8 (t.l.length - 1) cap) (t.l.length - 1) (cs1 ++ cs2) ∧ Below wc.heap.size wc w') := by
      intro W e1 e2 e4 e5
      exact conV2 (s1.bel M.out.2.2.2.1) (s2.bel M.out.2.2.2.1) (by omega) (by omega) W e1 e2 e4 e5
    have fin : Hid (∀ w3 a8 cap, w3.ownsRow wc.heap.size 25 5 (.slice a8 (t.l.length - 1) cap) (t.l.length - 1) (cs1 ++ cs2) → Below wc.heap.size wc w3 →
        VIs (set5 (w3.setCell ⟨w.heap.size, 4, none⟩ (.slice a8 (t.l.length - 1) cap)) (w.heap.size + 1) (.int .i64 t.kind) (.int .i64 t.n) (.string ⟨t.s.toArray⟩) (.slice a9 (t.keys.length - 1) kcap) (.slice a8 (t.l.length - 1) cap)) (okN ok w.heap.size) (d + 1) { t with keys := t.keys.take i ++ t.keys.drop (i + 1), l := t.l.take i ++ t.l.drop (i + 1) } (.agg #[.int .i64 t.kind, .int .i64 t.n, .string ⟨t.s.toArray⟩, .slice a9 (t.keys.length - 1) kcap, .slice a8 (t.l.length - 1) cap]) ∧
        Below w.heap.size w (set5 (w3.setCell ⟨w.heap.size, 4, none⟩ (.slice a8 (t.l.length - 1) cap)) (w.heap.size + 1) (.int .i64 t.kind) (.int .i64 t.n) (.string ⟨t.s.toArray⟩) (.slice a9 (t.keys.length - 1) kcap) (.slice a8 (t.l.length - 1) cap)) ∧ BoxIs (set5 (w3.setCell ⟨w.heap.size, 4, none⟩ (.slice a8 (t.l.length - 1) cap)) (w.heap.size + 1) (.int .i64 t.kind) (.int .i64 t.n) (.string ⟨t.s.toArray⟩) (.slice a9 (t.keys.length - 1) kcap) (.slice a8 (t.l.length - 1) cap)) (w.heap.size + 1) (.int .i64 t.kind) (.int .i64 t.n) (.string ⟨t.s.toArray⟩) (.slice a9 (t.keys.length - 1) kcap) (.slice a8 (t.l.length - 1) cap)) := by
      intro w3 a8 cap ho hb
      have g1 : w3.grownBy (w3.setCell ⟨w.heap.size, 4, none⟩ (.slice a8 (t.l.length - 1) cap)) (some w.heap.size) := gb_set (gb_refl _ _) _ _
      have g2 := set5_gb (w3.setCell ⟨w.heap.size, 4, none⟩ (.slice a8 (t.l.length - 1) cap)) (w.heap.size + 1) (.int .i64 t.kind) (.int .i64 t.n) (.string ⟨t.s.toArray⟩) (.slice a9 (t.keys.length - 1) kcap) (.slice a8 (t.l.length - 1) cap)
      have hbx := ((box_bel hb M.out.2.1).grown g1 (by simp)).set (.int .i64 t.kind) (.int .i64 t.n) (.string ⟨t.s.toArray⟩) (.slice a9 (t.keys.length - 1) kcap) (.slice a8 (t.l.length - 1) cap)
      have hbw : Below w.heap.size w w3 := bel_trans M.out.2.2.2.1 hb
      have hb9 : Below w.heap.size w (set5 (w3.setCell ⟨w.heap.size, 4, none⟩ (.slice a8 (t.l.length - 1) cap)) (w.heap.size + 1) (.int .i64 t.kind) (.int .i64 t.n) (.string ⟨t.s.toArray⟩) (.slice a9 (t.keys.length - 1) kcap) (.slice a8 (t.l.length - 1) cap)) := gb_none (gb_set5 (gb_setA (gb_below hbw) (Nat.le_refl _) _ _) (by omega) _ _ _ _ _)
      refine ⟨⟨_, _, by simp only [List.length_append, List.length_take, List.length_drop]; congr 5 <;> omega, KK.out.1, KK.out.2.1, KK.out.2.2.1, ?_, ?_⟩, hb9, hbx⟩
      · have hk3 := own_kept' (own_kept' (own_bel M.out.2.2.1 hb) g1 (by omega)) g2 (by omega)
        have hlen : t.keys.length - 1 = (t.keys.take i ++ t.keys.drop (i + 1)).length := by simp; omega
        refine own_strs (B := w2.heap.size) hlen ?_ ?_ (fun k hk => .inr (by omega)) (by rw [← hlen]; unfold maxLen; omega)
        · rw [List.map_append]; exact hk3
        · intro y hy
          simp only [List.mem_append] at hy
          rcases hy with hy | hy
          · exact KK.out.2.2.2.1.mem y (List.mem_of_mem_take hy)
          · exact KK.out.2.2.2.1.mem y (List.mem_of_mem_drop hy)
      · have ho9 := own_kept' (own_kept' ho g1 (by omega)) g2 (by omega)
        have hlen : t.l.length - 1 = (t.l.take i ++ t.l.drop (i + 1)).length := by simp; omega
        refine own_vals hlen ho9 ?_ (fun k hk => .inr (by omega)) (by rw [← hlen]; unfold maxLen; omega)
        exact (r2.bel (B := w.heap.size) hb9).append (r1.bel (B := w.heap.size) hb9)
    clear r1 r2 s1 s2
    go_upto_region 5 with fail
    go_region_with ((go_at_call 79; refine (con.out _ (by rfl) (by rfl) (by rfl) (by rfl)).mono ?_; rintro e w3 ⟨a8, cap, rfl, ho3, hb3⟩; obtain ⟨p0, p1, p2, p3, p4, -, -, -, p9, p10⟩ := (box_bel hb3 M.out.1).c; obtain ⟨x0, x1, x2, x3, x4, y0, y1, y2, y3, y4⟩ := (box_bel hb3 M.out.2.1).c; have O3 := hidI ho3; have HB3 := hidI hb3; clear ho3 hb3))
    all_goals
      go_wp2_with fail
      obtain ⟨f1, f2, f3⟩ := fin.out _ a8 cap O3.out HB3.out
      obtain ⟨z0, z1, z2, z3, z4, -⟩ := f3.c
      refine bodyPost_ret (v := .agg #[.int .i64 t.kind, .int .i64 t.n, .string ⟨t.s.toArray⟩, .slice a9 (t.keys.length - 1) kcap, .slice a8 (t.l.length - 1) cap]) ?_ rfl ?_
      · simp only [set5] at z0 z1 z2 z3 z4
        simp [results, Tryz.results87, go_sem, z0, z1, z2, z3, z4]
      · exact ⟨_, rfl, f1, f2⟩

theorem without_all (w : World) (ok : Nat → Prop) (d : Nat) (t : V) (v : Value) (key : List UInt8) (h : VIs w ok (d + 1) t v) (hsz : t.l.length ≤ 100000) :
    Calls Tryz.prog 87 #[v, str key] w fun e w' => ∃ r, e = .returned r ∧ VIs w' (okN ok w.heap.size) (d + 1) (withoutV t key) r ∧ Below w.heap.size w w' := by
  unfold withoutV
  cases hf : findV t key with
  | none => exact without_none w ok d t v key h hf
  | some i => exact without_found w ok d t v key i h hf hsz
end Go.Proofs.YtmdemcjmcnfjmaaGreatDoor

/- With and Without, so told. -/
set_option linter.unusedSimpArgs false
set_option linter.unusedVariables false
namespace Go.Proofs.YtmdemcjmcnfjmaaGreatDoor
open Go.RowKit

theorem with_is (w : World) (ok : Nat → Prop) (t x : V) (v xv : Value) (key : List UInt8) (h : In w ok t v) (hx : In w ok x xv) (hp : pairedV t = true) (hl : t.l.length ≤ 100000) (hk : key.length ≤ 9223372036854775807) :
    Calls Tryz.prog 78 #[v, str key, xv] w fun e w' => ∃ r, e = .returned r ∧ In w' (okN ok w.heap.size) (withV t key x) r ∧ Below w.heap.size w w' := by
  obtain ⟨d, h1, h2⟩ := h.two hx
  refine (with_all w ok d t x v xv key h1 h2 hp hl hk).mono ?_
  rintro e w' ⟨r, rfl, hr, hb⟩
  exact ⟨r, rfl, hr.is, hb⟩
theorem without_is (w : World) (ok : Nat → Prop) (t : V) (v : Value) (key : List UInt8) (h : In w ok t v) (hl : t.l.length ≤ 100000) :
    Calls Tryz.prog 87 #[v, str key] w fun e w' => ∃ r, e = .returned r ∧ In w' (okN ok w.heap.size) (withoutV t key) r ∧ Below w.heap.size w w' := by
  obtain ⟨d, h⟩ := h.at
  refine (without_all w ok d t v key h hl).mono ?_
  rintro e w' ⟨r, rfl, hr, hb⟩
  exact ⟨r, rfl, hr.is, hb⟩
end Go.Proofs.YtmdemcjmcnfjmaaGreatDoor

/- What alikeButItems of package json does. -/
set_option linter.unusedSimpArgs false
set_option linter.unusedVariables false
namespace Go.Proofs.YtmdemcjmcnfjmaaGreatDoor
open Go.RowKit

theorem equalS_at (w : World) (ok ok' : Nat → Prop) (xs ys : List (List UInt8)) (v1 v2 : Value) (h1 : StrsAre w ok xs v1) (h2 : StrsAre w ok' ys v2) :
    Calls Tryz.prog 99 #[v1, v2] w fun e w' => e = .returned (.bool (decide (xs = ys))) ∧ Below w.heap.size w w' := by
  have hm := h2.1
  unfold maxLen at hm
  have hm1 := h1.1
  unfold maxLen at hm1
  obtain ⟨a2, c2, e2⟩ := h2.form
  rcases h1.2 with ⟨rfl, a, rfl⟩ | ⟨b, off, c, rfl, g1, g2, g3⟩
  · rw [e2]
    refine (Tryz.slices_Equal_string_empty a a2 0 ys.length c2 w hm).mono ?_
    rintro e w' ⟨rfl, rfl⟩
    refine ⟨?_, Below.refl _ _⟩
    congr 2
    cases ys <;> simp
  · by_cases hl : xs.length = ys.length
    · rcases h2.2 with ⟨rfl, a, e⟩ | ⟨b2, off2, c3, e, f1, f2, f3⟩
      · have hx : xs = [] := List.eq_nil_of_length_eq_zero (by simpa using hl)
        subst hx
        rw [e2]
        refine (Tryz.slices_Equal_string_empty _ a2 c 0 c2 w (by omega)).mono ?_
        rintro e w' ⟨rfl, rfl⟩
        exact ⟨by simp, Below.refl _ _⟩
      · subst e
        refine (Tryz.slices_Equal_string b off xs.length c b2 off2 ys.length c3 (xs.map fun l => (⟨l.toArray⟩ : ByteArray)) (ys.map fun l => (⟨l.toArray⟩ : ByteArray)) w (by simp) (by simp) hm1 hm ?_ ?_).mono ?_
        · intro j hj
          have hj' : j < xs.length := by simpa using hj
          rw [(g3 j xs[j] (List.getElem?_eq_getElem hj')).2.2]
          simp [str, hj']
        · intro j hj
          have hj' : j < ys.length := by simpa using hj
          rw [(f3 j ys[j] (List.getElem?_eq_getElem hj')).2.2]
          simp [str, hj']
        · rintro e w' ⟨rfl, q, rfl⟩
          refine ⟨?_, ⟨rfl, rfl, rfl, Nat.le_refl _, fun _ _ => rfl⟩⟩
          congr 2
          rw [List.take_of_length_le (by simp), List.take_of_length_le (by simp)]
          have inj : ∀ (a b : List (List UInt8)), (a.map fun l => (⟨l.toArray⟩ : ByteArray)) = (b.map fun l => (⟨l.toArray⟩ : ByteArray)) ↔ a = b := by
            intro a
            induction a with
            | nil => intro b; cases b <;> simp
            | cons x a ih =>
              intro b
              cases b with
              | nil => simp
              | cons y b => simp [ih b]
          exact decide_eq_decide.2 (inj xs ys)
    · rw [e2]
      refine (Tryz.slices_Equal_string_lens _ a2 xs.length c ys.length c2 w hl).mono ?_
      rintro e w' ⟨rfl, rfl⟩
      refine ⟨?_, Below.refl _ _⟩
      congr 2
      have : ¬ xs = ys := fun e => hl (by rw [e])
      simp [this]
def aliked (a b : V) : Bool := decide (a.kind = b.kind) && decide (a.n = b.n) && decide (a.s = b.s) && decide (a.keys = b.keys) && decide (a.l.length = b.l.length)
set_option maxRecDepth 100000 in
set_option maxHeartbeats 4000000 in
theorem alike_is (w : World) (ok ok' : Nat → Prop) (a b : V) (va vb : Value) (ha : In w ok a va) (hb : In w ok' b vb) :
    Calls Tryz.prog 65 #[va, vb] w fun e w' => e = .returned (.bool (aliked a b)) ∧ Below w.heap.size w w' := by
  obtain ⟨l1, l2, l3⟩ := ha.lens
  obtain ⟨m1, m2, m3⟩ := hb.lens
  obtain ⟨d1, ha⟩ := ha.at
  obtain ⟨d2, hb⟩ := hb.at
  obtain ⟨ks, ls, rfl, -, -, -, h4, h5⟩ := ha
  obtain ⟨ks', ls', rfl, -, -, -, g4, g5⟩ := hb
  have H4 := hidI h4
  have G4 := hidI g4
  obtain ⟨a1, c1, rfl⟩ := h4.form
  obtain ⟨a2, c2, rfl⟩ := h5.form
  obtain ⟨a3, c3, rfl⟩ := g4.form
  obtain ⟨a4, c4, rfl⟩ := g5.form
  clear h4 h5 g4 g5
  unfold str
  have B2 : Hid (∀ o1 o2, Below w.heap.size w ((w.alloc o1).alloc o2)) := fun o1 o2 => bel_trans (bel_alloc _ _) (bel_alloc _ _)
  by_cases e1 : a.kind = b.kind
  · have q1 : (a.kind == b.kind) = true := by rw [beq_iff_eq]; exact e1
    by_cases e2 : a.n = b.n
    · have q2 : (a.n == b.n) = true := by rw [beq_iff_eq]; exact e2
      by_cases e3 : a.s = b.s
      · have q3 : (a.s == b.s) = true := by rw [beq_iff_eq]; exact e3
        have HE : Hid (aliked a b = (decide (a.keys = b.keys) && decide (a.l.length = b.l.length))) := hidI (by simp [aliked, e1, e2, e3])
        clear e1 e2 e3
        cases hk : decide (a.keys = b.keys) with
        | true =>
          by_cases hl : a.l.length = b.l.length
          · have q4 : ((a.l.length : Int) == (b.l.length : Int)) = true := by rw [hl]; simp
            have HR : Hid (aliked a b = true) := hidI (by rw [HE.out, hk]; simp [hl])
            have HK := hidI hk
            clear hk hl
            go_enter Tryz.func65, Tryz.ntmps65
            go_wp2_with fail
            refine (equalS_at _ _ _ a.keys b.keys _ _ (by exact H4.out.bel (B2.out _ _)) (by exact G4.out.bel (B2.out _ _))).mono ?_
            rintro e w1 ⟨rfl, hb1⟩
            rw [HK.out]
            have p4 := (box_bel hb1 (h2a w _ _)).c.2.2.2.2.1
            have r4 := (box_bel hb1 (h2b w _ _)).c.2.2.2.2.1
            have HB := hidI (bel_trans (B2.out _ _) hb1)
            clear hb1
            go_wp2_with fail
            go_ret
            exact ⟨by rw [HR.out]; rfl, HB.out⟩
          · have q4 : ((a.l.length : Int) == (b.l.length : Int)) = false := by rw [beq_eq_false_iff_ne]; omega
            have HR : Hid (aliked a b = false) := hidI (by rw [HE.out, hk]; simp [hl])
            have HK := hidI hk
            clear hk hl
            go_enter Tryz.func65, Tryz.ntmps65
            go_wp2_with fail
            refine (equalS_at _ _ _ a.keys b.keys _ _ (by exact H4.out.bel (B2.out _ _)) (by exact G4.out.bel (B2.out _ _))).mono ?_
            rintro e w1 ⟨rfl, hb1⟩
            rw [HK.out]
            have p4 := (box_bel hb1 (h2a w _ _)).c.2.2.2.2.1
            have r4 := (box_bel hb1 (h2b w _ _)).c.2.2.2.2.1
            have HB := hidI (bel_trans (B2.out _ _) hb1)
            clear hb1
            go_wp2_with fail
            go_ret
            exact ⟨by rw [HR.out]; rfl, HB.out⟩
        | false =>
          have HR : Hid (aliked a b = false) := hidI (by rw [HE.out, hk]; rfl)
          have HK := hidI hk
          clear hk
          go_enter Tryz.func65, Tryz.ntmps65
          go_wp2_with fail
          refine (equalS_at _ _ _ a.keys b.keys _ _ (by exact H4.out.bel (B2.out _ _)) (by exact G4.out.bel (B2.out _ _))).mono ?_
          rintro e w1 ⟨rfl, hb1⟩
          rw [HK.out]
          have HB := hidI (bel_trans (B2.out _ _) hb1)
          clear hb1
          go_wp2_with fail
          go_ret
          exact ⟨by rw [HR.out]; rfl, HB.out⟩
      · have q3 : (a.s == b.s) = false := by rw [beq_eq_false_iff_ne]; exact e3
        have HR : Hid (aliked a b = false) := hidI (by simp [aliked, e3])
        clear e1 e2 e3
        go_enter Tryz.func65, Tryz.ntmps65
        go_wp2_with fail
        go_ret
        exact ⟨by rw [HR.out]; rfl, B2.out _ _⟩
    · have q2 : (a.n == b.n) = false := by rw [beq_eq_false_iff_ne]; exact e2
      have HR : Hid (aliked a b = false) := hidI (by simp [aliked, e2])
      clear e1 e2
      go_enter Tryz.func65, Tryz.ntmps65
      go_wp2_with fail
      go_ret
      exact ⟨by rw [HR.out]; rfl, B2.out _ _⟩
  · have q1 : (a.kind == b.kind) = false := by rw [beq_eq_false_iff_ne]; exact e1
    have HR : Hid (aliked a b = false) := hidI (by simp [aliked, e1])
    clear e1
    go_enter Tryz.func65, Tryz.ntmps65
    go_wp2_with fail
    go_ret
    exact ⟨by rw [HR.out]; rfl, B2.out _ _⟩
end Go.Proofs.YtmdemcjmcnfjmaaGreatDoor

/- What Same of package json does. -/
set_option linter.unusedSimpArgs false
set_option linter.unusedVariables false
namespace Go.Proofs.YtmdemcjmcnfjmaaGreatDoor
open Go.RowKit
theorem alike_eq {x y : V} (h : aliked x y = true) : (x = y ↔ x.l = y.l) ∧ y.l.length = x.l.length := by
  simp only [aliked, Bool.and_eq_true, decide_eq_true_eq] at h
  obtain ⟨⟨⟨⟨h1, h2⟩, h3⟩, h4⟩, h5⟩ := h
  refine ⟨⟨fun e => by rw [e], fun e => ?_⟩, h5.symm⟩
  rw [← V_eta x, ← V_eta y, h1, h2, h3, h4, e]
theorem alike_no {x y : V} (h : aliked x y = false) : x ≠ y := by
  rintro rfl
  simp [aliked] at h

set_option maxRecDepth 100000 in
set_option maxHeartbeats 40000000 in
theorem same_run (w : World) (ok ok' : Nat → Prop) (a b : V) (va vb : Value) (ha : In w ok a va) (hb : In w ok' b vb) (hN : cnt a ≤ 2000000000000) :
    Calls Tryz.prog 31 #[va, vb] w fun e w' => SameP w a b e w' := by
  have HA := hidI ha
  have HB := hidI hb
  obtain ⟨a1, a2, c1, c2, rfl⟩ := ha.form
  obtain ⟨a3, a4, c3, c4, rfl⟩ := hb.form
  clear ha hb
  go_enter Tryz.func31, Tryz.ntmps31
  go_upto_region 1 with fail
  go_cut [5, 6] (fun lv rv wc => ∃ ia ib, SI w ok ok' ia ib [[a]] [[b]] lv rv wc)
  case first =>
    go_region
    all_goals
      go_wp2_with fail
      go_meet
      case rel =>
        first
          | exact ⟨w.heap.size + 2, w.heap.size + 4, si_start HA.out HB.out (by repeat (first | exact Below.refl _ _ | refine bel_dr ?_ | refine bel_al ?_ _)) (heap_at6 w _ _ _ _ _ _ 3 (by decide)) (heap_at6 w _ _ _ _ _ _ 5 (by decide)) (heap_at6 w _ _ _ _ _ _ 2 (by decide)) (heap_at6 w _ _ _ _ _ _ 4 (by decide)) (by refine ⟨?_, ?_, ?_, ?_, ?_, ?_, ?_⟩ <;> omega)⟩
          | exact ⟨w.heap.size + 2, w.heap.size + 3, si_start HA.out HB.out (by repeat (first | exact Below.refl _ _ | refine bel_dr ?_ | refine bel_al ?_ _)) (heap_at6 w _ _ _ _ _ _ 4 (by decide)) (heap_at6 w _ _ _ _ _ _ 5 (by decide)) (heap_at6 w _ _ _ _ _ _ 2 (by decide)) (heap_at6 w _ _ _ _ _ _ 3 (by decide)) (by refine ⟨?_, ?_, ?_, ?_, ?_, ?_, ?_⟩ <;> omega)⟩
          | exact ⟨w.heap.size + 2, w.heap.size + 3, si_start HA.out HB.out (by repeat (first | exact Below.refl _ _ | refine bel_dr ?_ | refine bel_al ?_ _)) (heap_at6 w _ _ _ _ _ _ 5 (by decide)) (heap_at6 w _ _ _ _ _ _ 4 (by decide)) (heap_at6 w _ _ _ _ _ _ 2 (by decide)) (heap_at6 w _ _ _ _ _ _ 3 (by decide)) (by refine ⟨?_, ?_, ?_, ?_, ?_, ?_, ?_⟩ <;> omega)⟩
          | exact ⟨w.heap.size + 3, w.heap.size + 2, si_start HA.out HB.out (by repeat (first | exact Below.refl _ _ | refine bel_dr ?_ | refine bel_al ?_ _)) (heap_at6 w _ _ _ _ _ _ 4 (by decide)) (heap_at6 w _ _ _ _ _ _ 5 (by decide)) (heap_at6 w _ _ _ _ _ _ 3 (by decide)) (heap_at6 w _ _ _ _ _ _ 2 (by decide)) (by refine ⟨?_, ?_, ?_, ?_, ?_, ?_, ?_⟩ <;> omega)⟩
          | exact ⟨w.heap.size + 3, w.heap.size + 2, si_start HA.out HB.out (by repeat (first | exact Below.refl _ _ | refine bel_dr ?_ | refine bel_al ?_ _)) (heap_at6 w _ _ _ _ _ _ 5 (by decide)) (heap_at6 w _ _ _ _ _ _ 4 (by decide)) (heap_at6 w _ _ _ _ _ _ 3 (by decide)) (heap_at6 w _ _ _ _ _ _ 2 (by decide)) (by refine ⟨?_, ?_, ?_, ?_, ?_, ?_, ?_⟩ <;> omega)⟩
          | exact ⟨w.heap.size + 4, w.heap.size + 2, si_start HA.out HB.out (by repeat (first | exact Below.refl _ _ | refine bel_dr ?_ | refine bel_al ?_ _)) (heap_at6 w _ _ _ _ _ _ 5 (by decide)) (heap_at6 w _ _ _ _ _ _ 3 (by decide)) (heap_at6 w _ _ _ _ _ _ 4 (by decide)) (heap_at6 w _ _ _ _ _ _ 2 (by decide)) (by refine ⟨?_, ?_, ?_, ?_, ?_, ?_, ?_⟩ <;> omega)⟩
  case rest =>
    obtain ⟨ia, ib, hS⟩ := hcut
    have S0 := hidI hS
    clear hS
    go_wp2_with fail
    go_loopg [5, 6] (1 + cnt a) (fun gk lv rv wr => ∃ ls rs, (a = b ↔ ls = rs) ∧ PL ls rs ∧ gk = mu ls ∧ mu ls ≤ 2000000000001 ∧ SI w ok ok' ia ib ls rs lv rv wr)
    case atStart => exact ⟨[[a]], [[b]], ⟨fun e => by rw [e], fun e => by simpa using e⟩, ⟨rfl, fun j l r h1 h2 => by cases j <;> simp at h1 h2; rw [← h1, ← h2]; rfl⟩, by simp [mu, cnts_nil, cnts_cons], by simp [mu, cnts_nil, cnts_cons]; omega, S0.out⟩
    case round =>
      obtain ⟨ls, rs, hiff, hpl, hgk, hM, hSI⟩ := hrel
      rcases ends ls with rfl | ⟨ms, xs, rfl⟩
      · obtain ⟨gL, gR, cL, cR, rfl, rfl, hSE⟩ := hSI
        have hSB := hSE.2.2.2.2.2.2.2.2.2
        have R : Hid (a = b ∧ Below w.heap.size w wr) := hidI ⟨hiff.2 (List.eq_nil_of_length_eq_zero (by simpa using hpl.1)).symm, hSB⟩
        clear hiff hpl hgk hM hSE hSB
        have e0 : ([] : List (List V)).length = 0 := rfl
        rw [e0]
        go_wp2_with fail
        go_ret
        exact ⟨true, rfl, ⟨fun _ => R.out.1, fun _ => rfl⟩, R.out.2⟩
      · obtain ⟨qs, ys, rfl, hpl', hxy⟩ := hpl.pop
        obtain ⟨gL, gR, cL, cR, rfl, rfl, hL, hR, n1, n2, n3, n4, n5, n6, n7, hBw⟩ := hSI
        obtain ⟨xv, px, vx, hL'⟩ := hL.pop
        obtain ⟨yv, py, vy, hR'⟩ := hR.pop
        obtain ⟨M, hgM⟩ : ∃ M, gk = M := ⟨_, rfl⟩
        rw [hgM] at hgk
        have GKM := hidI hgM
        clear hgM
        have hq : qs.length = ms.length := hpl'.1
        rw [hq] at py
        have J0 : Hid (SJ w ok ok' ia ib a b xs ys xv yv M 0 (.slice (some ⟨gL, 0, none⟩) ms.length cL) (.slice (some ⟨gR, 0, none⟩) ms.length cR) wr) := hidI ⟨ms, qs, by rw [hiff, snoc_both]; simp, hpl', by rw [hgk, mu_push]; simp; omega, by omega, vx, vy, gL, gR, cL, cR, rfl, by rw [hq], hL', hR', n1, n2, n3, n4, n5, n6, n7, hBw⟩
        have zL := hL.cap
        have zR := hR.cap
        have eL : (ms ++ [xs]).length = ms.length + 1 := by simp
        have eR : (qs ++ [ys]).length = ms.length + 1 := by simp [hq]
        rw [eL] at zL ⊢
        rw [eR] at zR ⊢
        obtain ⟨z1, z2⟩ := zL
        obtain ⟨z3, z4⟩ := zR
        obtain ⟨xa, xc, rfl⟩ := vx.form
        obtain ⟨ya, yc, rfl⟩ := vy.form
        have lx := vx.len
        have HXY := hidI hxy
        have GM : Hid (M ≤ 2000000000001) := hidI (by rw [hgk]; exact hM)
        clear hiff hpl hpl' hL hR hL' hR' hgk hM vx vy n1 n2 n3 n4 n5 n6 n7 hBw eL eR hq hxy
        have y1 : (0 : Int) ≤ (ms.length : Int) := by omega
        have y2 : (ms.length : Int) < ((ms.length + 1 : Nat) : Int) := by omega
        have y3 : (ms.length : Int) ≤ (cL : Int) := by omega
        have y4 : (ms.length : Int) ≤ (cR : Int) := by omega
        go_wp2_with fail
        go_quiet (fail)
        go_wp2_with fail
        go_quiet (fail)
        go_wp2_with fail
        go_loopg [5, 6, 39] xs.length (fun gi lv rv i wi => ∃ k : Nat, k ≤ xs.length ∧ gi = xs.length - k ∧ i = .int .i64 k ∧ SJ w ok ok' ia ib a b xs ys (.slice xa xs.length xc) (.slice ya ys.length yc) M k lv rv wi)
        case atStart => exact ⟨0, Nat.zero_le _, rfl, rfl, by first | exact J0.out | exact J0.out.bel (bel_drewN _ _) | exact J0.out.bel (Below.refl _ _)⟩
        case round =>
          obtain ⟨k, hk, hgi, rfl, ls, rs, i1, i2, i3, i4, i5, i6, gL', gR', cL', cR', rfl, rfl, i7⟩ := hrel
          have GI := hidI hgi
          have J : Hid ((a = b ↔ ls = rs ∧ xs.drop k = ys.drop k) ∧ PL ls rs ∧ mu ls + cnts (xs.drop k) + 1 ≤ M ∧ ValsIn wr (okX ok w.heap.size ia) xs (.slice xa xs.length xc) ∧ ValsIn wr (okX ok' w.heap.size ib) ys (.slice ya ys.length yc) ∧ SE w ok ok' ia ib ls rs gL' gR' cL' cR' wr) := hidI ⟨i1, i2, i3, i5, i6, i7⟩
          clear hgi i1 i2 i3 i4 i7
          by_cases hlt : k < xs.length
          · have hlt' : k < ys.length := by have := HXY.out; omega
            obtain ⟨xb, xo, p5, q5, p6, q6, rfl, x1, x2, g0, g1, g2, g3, g4, g5⟩ := i5.item hlt
            obtain ⟨yb, yo, p7, q7, p8, q8, rfl, x3, x4, f0, f1, f2, f3, f4, f5⟩ := i6.item hlt'
            clear i5 i6
            have w1 : (0 : Int) ≤ (k : Int) := by omega
            have w2 : (k : Int) < (xs.length : Int) := by omega
            have w3 : (k : Int) < (ys.length : Int) := by omega
            have CALL : Hid (∀ w', Below wr.heap.size wr w' → Calls Tryz.prog 65 #[.agg #[.int .i64 xs[k].kind, .int .i64 xs[k].n, .string ⟨xs[k].s.toArray⟩, .slice p5 xs[k].keys.length q5, .slice p6 xs[k].l.length q6], .agg #[.int .i64 ys[k].kind, .int .i64 ys[k].n, .string ⟨ys[k].s.toArray⟩, .slice p7 ys[k].keys.length q7, .slice p8 ys[k].l.length q8]] w' fun e w4 => e = .returned (.bool (aliked xs[k] ys[k])) ∧ Below wr.heap.size wr w4 ∧
                w4.cell? ⟨xb, xo + k * 5, none⟩ = some (.int .i64 xs[k].kind) ∧ w4.cell? ⟨xb, xo + k * 5 + 1, none⟩ = some (.int .i64 xs[k].n) ∧ w4.cell? ⟨xb, xo + k * 5 + 2, none⟩ = some (.string ⟨xs[k].s.toArray⟩) ∧ w4.cell? ⟨xb, xo + k * 5 + 3, none⟩ = some (.slice p5 xs[k].keys.length q5) ∧ w4.cell? ⟨xb, xo + k * 5 + 4, none⟩ = some (.slice p6 xs[k].l.length q6) ∧ w4.cell? ⟨yb, yo + k * 5, none⟩ = some (.int .i64 ys[k].kind) ∧ w4.cell? ⟨yb, yo + k * 5 + 1, none⟩ = some (.int .i64 ys[k].n) ∧ w4.cell? ⟨yb, yo + k * 5 + 2, none⟩ = some (.string ⟨ys[k].s.toArray⟩) ∧ w4.cell? ⟨yb, yo + k * 5 + 3, none⟩ = some (.slice p7 ys[k].keys.length q7) ∧ w4.cell? ⟨yb, yo + k * 5 + 4, none⟩ = some (.slice p8 ys[k].l.length q8)) := by
              intro w' hb'
              refine (alike_is w' _ _ xs[k] ys[k] _ _ (g5.bel hb') (f5.bel hb')).mono ?_
              rintro e w4 ⟨rfl, hb4⟩
              have hb5 := bel_trans hb' hb4
              exact ⟨rfl, hb5, cell_bel hb5 g0, cell_bel hb5 g1, cell_bel hb5 g2, cell_bel hb5 g3, cell_bel hb5 g4, cell_bel hb5 f0, cell_bel hb5 f1, cell_bel hb5 f2, cell_bel hb5 f3, cell_bel hb5 f4⟩
            have VX := hidI g5.vals
            have VY := hidI f5.vals
            clear g5 f5
            go_wp2_with fail
            go_region_held3 (fun w4 => w4.cell? ⟨xb, xo + k * 5, none⟩ = some (.int .i64 xs[k].kind) ∧ w4.cell? ⟨xb, xo + k * 5 + 1, none⟩ = some (.int .i64 xs[k].n) ∧ w4.cell? ⟨xb, xo + k * 5 + 2, none⟩ = some (.string ⟨xs[k].s.toArray⟩) ∧ w4.cell? ⟨xb, xo + k * 5 + 3, none⟩ = some (.slice p5 xs[k].keys.length q5) ∧ w4.cell? ⟨xb, xo + k * 5 + 4, none⟩ = some (.slice p6 xs[k].l.length q6) ∧ w4.cell? ⟨yb, yo + k * 5, none⟩ = some (.int .i64 ys[k].kind) ∧ w4.cell? ⟨yb, yo + k * 5 + 1, none⟩ = some (.int .i64 ys[k].n) ∧ w4.cell? ⟨yb, yo + k * 5 + 2, none⟩ = some (.string ⟨ys[k].s.toArray⟩) ∧ w4.cell? ⟨yb, yo + k * 5 + 3, none⟩ = some (.slice p7 ys[k].keys.length q7) ∧ w4.cell? ⟨yb, yo + k * 5 + 4, none⟩ = some (.slice p8 ys[k].l.length q8)) (go_keep)
              (first | (go_at_call 65; refine (CALL.out _ (by exact ⟨rfl, rfl, rfl, Nat.le_refl _, fun _ _ => rfl⟩)).mono ?_; rintro e w4 ⟨rfl, hb4, s0, s1, s2, s3, s4, r0, r1, r2, r3, r4⟩))
            all_goals
              have HB4 := hidI hb4
              have E4 := hidI (J.out.2.2.2.2.2.bel hb4)
              clear hb4 g0 g1 g2 g3 g4 f0 f1 f2 f3 f4 CALL s0 s1 s2 s3 r0 r1 r2 r3
              cases hr : aliked xs[k] ys[k] with
              | false =>
                have R : Hid ((¬ a = b) ∧ Below w.heap.size w w4) := hidI ⟨fun e => absurd ((drop_both hlt hlt').1 (J.out.1.1 e).2).1 (alike_no hr), E4.out.2.2.2.2.2.2.2.2.2⟩
                clear hr s4 r4
                go_wp2_with fail
                go_ret
                exact ⟨false, rfl, ⟨fun e => absurd e Bool.false_ne_true, fun e => absurd e R.out.1⟩, R.out.2⟩
              | true =>
                have HR := hidI hr
                clear hr
                by_cases h0 : xs[k].l.length = 0
                · have d0 : ¬ (0 : Int) < (xs[k].l.length : Int) := by omega
                  have FIN : Hid (SJ w ok ok' ia ib a b xs ys (.slice (some ⟨xb, xo, none⟩) xs.length xc) (.slice (some ⟨yb, yo, none⟩) ys.length yc) M (k + 1) (.slice (some ⟨gL', 0, none⟩) ls.length cL') (.slice (some ⟨gR', 0, none⟩) rs.length cR') w4) := by
                    obtain ⟨j1, j2, j3, j5, j6, j7⟩ := J.out
                    have he := alike_eq HR.out
                    have e1 : xs[k].l = [] := List.eq_nil_of_length_eq_zero h0
                    have e2 : ys[k].l = [] := List.eq_nil_of_length_eq_zero (by rw [he.2, h0])
                    have e3 : xs[k] = ys[k] := he.1.2 (by rw [e1, e2])
                    have e4 := cnts_drop hlt
                    exact hidI ⟨ls, rs, by rw [j1, drop_both hlt hlt']; simp [e3], j2, by omega, GM.out, j5.bel HB4.out, j6.bel HB4.out, gL', gR', cL', cR', rfl, rfl, E4.out⟩
                  clear h0 r4
                  go_wp2_with fail
                  go_roundg (xs.length - (k + 1))
                  case measure => rw [GI.out]; omega
                  case rel => exact ⟨k + 1, hlt, rfl, by go_num, FIN.out⟩
                · have d0 : (0 : Int) < (xs[k].l.length : Int) := by omega
                  have WL : Hid (Wait w4 w.heap.size (okX ok w.heap.size ia) ls gL' cL') := hidI E4.out.1
                  have WR : Hid (Wait w4 w.heap.size (okX ok' w.heap.size ib) rs gR' cR') := hidI E4.out.2.1
                  have VX4 : Hid (ValsIn w4 (okX ok w.heap.size ia) xs[k].l (.slice p6 xs[k].l.length q6)) := hidI (VX.out.bel HB4.out)
                  have VY4 : Hid (ValsIn w4 (okX ok' w.heap.size ib) ys[k].l (.slice p8 ys[k].l.length q8)) := hidI (VY.out.bel HB4.out)
                  have LA := hidI E4.out.lows
                  have LB := hidI E4.out.swap.lows
                  have gL4 : Hid (gL' < w4.heap.size) := hidI E4.out.1.lt.2
                  have gR4 : Hid (gR' < w4.heap.size) := hidI E4.out.2.1.lt.2
                  have nLR : Hid (gR' ≠ gL') := hidI E4.out.2.2.1.symm
                  have nRL : Hid (gL' ≠ gR') := hidI E4.out.2.2.1
                  have nLB : Hid (∀ j, (okX ok' w.heap.size ib) j → j ≠ gL') := hidI (okX_ne E4.out.1.lt.1 E4.out.2.2.2.2.2.1)
                  have nRA : Hid (∀ j, (okX ok w.heap.size ia) j → j ≠ gR') := hidI (okX_ne E4.out.2.1.lt.1 E4.out.2.2.2.2.1)
                  have nXL : Hid (xb ≠ gL') := hidI (okX_ne E4.out.1.lt.1 E4.out.2.2.2.1 _ (J.out.2.2.2.1.blk hlt))
                  have nXR : Hid (xb ≠ gR') := hidI (nRA.out _ (J.out.2.2.2.1.blk hlt))
                  have nYL : Hid (yb ≠ gL') := hidI (nLB.out _ (J.out.2.2.2.2.1.blk hlt'))
                  have nYR : Hid (yb ≠ gR') := hidI (okX_ne E4.out.2.1.lt.1 E4.out.2.2.2.2.2.2.1 _ (J.out.2.2.2.2.1.blk hlt'))
                  have nls : ls.length ≤ 5000000000000 := by have := mu_len ls; have := J.out.2.2.1; have := GM.out; omega
                  have nrs : rs.length ≤ 5000000000000 := by have := J.out.2.1.1; omega
                  have midL : Hid (∀ (W w7 : World) (g7 c7 : Nat), Below w4.heap.size w4 W → Wait w7 w.heap.size (okX ok w.heap.size ia) (ls ++ [xs[k].l]) g7 c7 → W.grownBy w7 (some gL') → (g7 = gL' ∨ W.heap.size = g7) →
                    (w7.cell? ⟨xb, xo + k * 5 + 4, none⟩ = some (.slice p6 xs[k].l.length q6) ∧ w7.cell? ⟨yb, yo + k * 5 + 4, none⟩ = some (.slice p8 ys[k].l.length q8) ∧ (∀ o, (w7.alloc o).cell? ⟨xb, xo + k * 5 + 4, none⟩ = some (.slice p6 xs[k].l.length q6)) ∧ (∀ o, (w7.alloc o).cell? ⟨yb, yo + k * 5 + 4, none⟩ = some (.slice p8 ys[k].l.length q8))) ∧
                    (∀ nb o, w4.heap.size ≤ nb → W.heap[nb]? = some o → w7.heap[nb]? = some o) ∧ Wait w7 w.heap.size (okX ok' w.heap.size ib) rs gR' cR' ∧ ValsIn w7 (okX ok' w.heap.size ib) ys[k].l (.slice p8 ys[k].l.length q8) ∧ (∀ j, (okX ok' w.heap.size ib) j → j < w7.heap.size) ∧
                    w4.grownBy w7 (some gL') ∧ Wait w7 w.heap.size (okX ok w.heap.size ia) (ls ++ [xs[k].l]) g7 c7 ∧ (g7 = gL' ∨ w4.heap.size ≤ g7)) := by
                    intro W w7 g7 c7 b1 h7 q7 o7
                    have G : w4.grownBy w7 (some gL') := gb_trans (gb_below b1) q7
                    have cx := G.cell s4 (by simpa using nXL.out)
                    have cy := G.cell r4 (by simpa using nYL.out)
                    refine ⟨⟨cx, cy, fun o => cell_bel (bel_alloc w7 o) cx, fun o => cell_bel (bel_alloc w7 o) cy⟩, fun nb o hn ho => (q7.block nb (Array.getElem?_eq_some_iff.1 ho).1 (by simp; have := gL4.out; omega)).trans ho, WR.out.far G nLR.out nLB.out, VY4.out.grown G nLB.out, fun j hj => Nat.lt_of_lt_of_le (LB.out j hj) G.size, G, h7, o7.imp id fun e => by have := b1.size; omega⟩
                  have midR : Hid (∀ (W w7 : World) (g7 c7 : Nat), Below w4.heap.size w4 W → Wait w7 w.heap.size (okX ok' w.heap.size ib) (rs ++ [ys[k].l]) g7 c7 → W.grownBy w7 (some gR') → (g7 = gR' ∨ W.heap.size = g7) →
                    (w7.cell? ⟨xb, xo + k * 5 + 4, none⟩ = some (.slice p6 xs[k].l.length q6) ∧ w7.cell? ⟨yb, yo + k * 5 + 4, none⟩ = some (.slice p8 ys[k].l.length q8) ∧ (∀ o, (w7.alloc o).cell? ⟨xb, xo + k * 5 + 4, none⟩ = some (.slice p6 xs[k].l.length q6)) ∧ (∀ o, (w7.alloc o).cell? ⟨yb, yo + k * 5 + 4, none⟩ = some (.slice p8 ys[k].l.length q8))) ∧
                    (∀ nb o, w4.heap.size ≤ nb → W.heap[nb]? = some o → w7.heap[nb]? = some o) ∧ Wait w7 w.heap.size (okX ok w.heap.size ia) ls gL' cL' ∧ ValsIn w7 (okX ok w.heap.size ia) xs[k].l (.slice p6 xs[k].l.length q6) ∧ (∀ j, (okX ok w.heap.size ia) j → j < w7.heap.size) ∧
                    w4.grownBy w7 (some gR') ∧ Wait w7 w.heap.size (okX ok' w.heap.size ib) (rs ++ [ys[k].l]) g7 c7 ∧ (g7 = gR' ∨ w4.heap.size ≤ g7)) := by
                    intro W w7 g7 c7 b1 h7 q7 o7
                    have G : w4.grownBy w7 (some gR') := gb_trans (gb_below b1) q7
                    have cx := G.cell s4 (by simpa using nXR.out)
                    have cy := G.cell r4 (by simpa using nYR.out)
                    refine ⟨⟨cx, cy, fun o => cell_bel (bel_alloc w7 o) cx, fun o => cell_bel (bel_alloc w7 o) cy⟩, fun nb o hn ho => (q7.block nb (Array.getElem?_eq_some_iff.1 ho).1 (by simp; have := gR4.out; omega)).trans ho, WL.out.far G nRL.out nRA.out, VX4.out.grown G nRA.out, fun j hj => Nat.lt_of_lt_of_le (LA.out j hj) G.size, G, h7, o7.imp id fun e => by have := b1.size; omega⟩
                  have FINL : Hid (∀ (g7 c7 g8 c8 : Nat) (w7 w8 : World), w4.grownBy w7 (some gL') → Wait w7 w.heap.size (okX ok w.heap.size ia) (ls ++ [xs[k].l]) g7 c7 → (g7 = gL' ∨ w4.heap.size ≤ g7) → w7.grownBy w8 (some gR') → Wait w8 w.heap.size (okX ok' w.heap.size ib) (rs ++ [ys[k].l]) g8 c8 → (g8 = gR' ∨ w7.heap.size ≤ g8) →
                      SJ w ok ok' ia ib a b xs ys (.slice (some ⟨xb, xo, none⟩) xs.length xc) (.slice (some ⟨yb, yo, none⟩) ys.length yc) M (k + 1) (.slice (some ⟨g7, 0, none⟩) (ls.length + 1) c7) (.slice (some ⟨g8, 0, none⟩) (rs.length + 1) c8) w8) := by
                    intro g7 c7 g8 c8 w7 w8 q7 h7 o7 q8 h8 o8
                    obtain ⟨j1, j2, j3, j5, j6, j7⟩ := J.out
                    have he := alike_eq HR.out
                    have e4 := cnts_drop hlt
                    have e5 := cnt_eq xs[k]
                    refine ⟨ls ++ [xs[k].l], rs ++ [ys[k].l], by rw [j1, drop_both hlt hlt', snoc_both, he.1, and_assoc], j2.push he.2, by rw [mu_push]; omega, GM.out, ((j5.bel HB4.out).grown q7 ?_).grown q8 nRA.out, ((j6.bel HB4.out).grown q7 nLB.out).grown q8 ?_, g7, g8, c7, c8, by simp, by simp, push_end E4.out q7 h7 o7 q8 h8 o8⟩
                    · exact okX_ne E4.out.1.lt.1 E4.out.2.2.2.1
                    · exact okX_ne E4.out.2.1.lt.1 E4.out.2.2.2.2.2.2.1
                  have FINR : Hid (∀ (g7 c7 g8 c8 : Nat) (w7 w8 : World), w4.grownBy w7 (some gR') → Wait w7 w.heap.size (okX ok' w.heap.size ib) (rs ++ [ys[k].l]) g7 c7 → (g7 = gR' ∨ w4.heap.size ≤ g7) → w7.grownBy w8 (some gL') → Wait w8 w.heap.size (okX ok w.heap.size ia) (ls ++ [xs[k].l]) g8 c8 → (g8 = gL' ∨ w7.heap.size ≤ g8) →
                      SJ w ok ok' ia ib a b xs ys (.slice (some ⟨xb, xo, none⟩) xs.length xc) (.slice (some ⟨yb, yo, none⟩) ys.length yc) M (k + 1) (.slice (some ⟨g8, 0, none⟩) (ls.length + 1) c8) (.slice (some ⟨g7, 0, none⟩) (rs.length + 1) c7) w8) := by
                    intro g7 c7 g8 c8 w7 w8 q7 h7 o7 q8 h8 o8
                    obtain ⟨j1, j2, j3, j5, j6, j7⟩ := J.out
                    have he := alike_eq HR.out
                    have e4 := cnts_drop hlt
                    have e5 := cnt_eq xs[k]
                    refine ⟨ls ++ [xs[k].l], rs ++ [ys[k].l], by rw [j1, drop_both hlt hlt', snoc_both, he.1, and_assoc], j2.push he.2, by rw [mu_push]; omega, GM.out, ((j5.bel HB4.out).grown q7 nRA.out).grown q8 ?_, ((j6.bel HB4.out).grown q7 ?_).grown q8 nLB.out, g8, g7, c8, c7, by simp, by simp, (push_end E4.out.swap q7 h7 o7 q8 h8 o8).swap⟩
                    · exact okX_ne E4.out.1.lt.1 E4.out.2.2.2.1
                    · exact okX_ne E4.out.2.1.lt.1 E4.out.2.2.2.2.2.2.1
                  have s5 : ∀ o, (w4.alloc o).cell? ⟨xb, xo + k * 5 + 4, none⟩ = some (.slice p6 xs[k].l.length q6) := fun o => cell_bel (bel_alloc w4 o) s4
                  have r5 : ∀ o, (w4.alloc o).cell? ⟨yb, yo + k * 5 + 4, none⟩ = some (.slice p8 ys[k].l.length q8) := fun o => cell_bel (bel_alloc w4 o) r4
                  have s6 : ∀ o o', ((w4.alloc o).alloc o').cell? ⟨xb, xo + k * 5 + 4, none⟩ = some (.slice p6 xs[k].l.length q6) := fun o o' => cell_bel (bel_alloc _ o') (s5 o)
                  have r6 : ∀ o o', ((w4.alloc o).alloc o').cell? ⟨yb, yo + k * 5 + 4, none⟩ = some (.slice p8 ys[k].l.length q8) := fun o o' => cell_bel (bel_alloc _ o') (r5 o)
                  clear h0
                  go_upto_region 12 with fail
                  go_region_held3 (fun w' => w'.cell? ⟨xb, xo + k * 5 + 4, none⟩ = some (.slice p6 xs[k].l.length q6) ∧ w'.cell? ⟨yb, yo + k * 5 + 4, none⟩ = some (.slice p8 ys[k].l.length q8)) (go_keep)
                    (first | (refine step_push (by rfl) _ _ (by rfl) (by rfl) (by rfl) (WL.out.bel (by first | exact Below.refl _ _ | exact bel_al (Below.refl _ _) _ | exact bel_al (bel_al (Below.refl _ _) _) _ | exact bel_dr (Below.refl _ _) | exact bel_dr (bel_al (Below.refl _ _) _) | exact bel_dr (bel_al (bel_al (Below.refl _ _) _) _) | exact bel_dr (bel_dr (Below.refl _ _)) | exact bel_dr (bel_dr (bel_al (Below.refl _ _) _)) | exact bel_dr (bel_dr (bel_al (bel_al (Below.refl _ _) _) _)) | exact bel_dr (bel_dr (bel_dr (Below.refl _ _))) | exact bel_dr (bel_dr (bel_dr (bel_al (Below.refl _ _) _))) | exact bel_dr (bel_dr (bel_dr (bel_al (bel_al (Below.refl _ _) _) _))))) (by first | exact heap_alloc_new _ _ | exact h2a _ _ _ | exact h2b _ _ _) (VX4.out.bel (by first | exact Below.refl _ _ | exact bel_al (Below.refl _ _) _ | exact bel_al (bel_al (Below.refl _ _) _) _ | exact bel_dr (Below.refl _ _) | exact bel_dr (bel_al (Below.refl _ _) _) | exact bel_dr (bel_al (bel_al (Below.refl _ _) _) _) | exact bel_dr (bel_dr (Below.refl _ _)) | exact bel_dr (bel_dr (bel_al (Below.refl _ _) _)) | exact bel_dr (bel_dr (bel_al (bel_al (Below.refl _ _) _) _)) | exact bel_dr (bel_dr (bel_dr (Below.refl _ _))) | exact bel_dr (bel_dr (bel_dr (bel_al (Below.refl _ _) _))) | exact bel_dr (bel_dr (bel_dr (bel_al (bel_al (Below.refl _ _) _) _))))) (by omega) (fun j hj => Nat.lt_of_lt_of_le (LA.out j hj) (szle (a := w4) (by first | exact Below.refl _ _ | exact bel_al (Below.refl _ _) _ | exact bel_al (bel_al (Below.refl _ _) _) _ | exact bel_dr (Below.refl _ _) | exact bel_dr (bel_al (Below.refl _ _) _) | exact bel_dr (bel_al (bel_al (Below.refl _ _) _) _) | exact bel_dr (bel_dr (Below.refl _ _)) | exact bel_dr (bel_dr (bel_al (Below.refl _ _) _)) | exact bel_dr (bel_dr (bel_al (bel_al (Below.refl _ _) _) _)) | exact bel_dr (bel_dr (bel_dr (Below.refl _ _))) | exact bel_dr (bel_dr (bel_dr (bel_al (Below.refl _ _) _))) | exact bel_dr (bel_dr (bel_dr (bel_al (bel_al (Below.refl _ _) _) _)))))) ?_; intro g7 c7 w7 h7 q7 o7; have P7 : Hid _ := hidI (midL.out _ _ _ _ (by first | exact Below.refl _ _ | exact bel_al (Below.refl _ _) _ | exact bel_al (bel_al (Below.refl _ _) _) _ | exact bel_dr (Below.refl _ _) | exact bel_dr (bel_al (Below.refl _ _) _) | exact bel_dr (bel_al (bel_al (Below.refl _ _) _) _) | exact bel_dr (bel_dr (Below.refl _ _)) | exact bel_dr (bel_dr (bel_al (Below.refl _ _) _)) | exact bel_dr (bel_dr (bel_al (bel_al (Below.refl _ _) _) _)) | exact bel_dr (bel_dr (bel_dr (Below.refl _ _))) | exact bel_dr (bel_dr (bel_dr (bel_al (Below.refl _ _) _))) | exact bel_dr (bel_dr (bel_dr (bel_al (bel_al (Below.refl _ _) _) _)))) h7 q7 o7); obtain ⟨v1, v2, v3, v4⟩ := P7.out.1; have N7 : Hid _ := hidI P7.out.2.1; clear h7 q7 o7) | (refine step_push (by rfl) _ _ (by rfl) (by rfl) (by rfl) (P7.out.2.2.1.bel (by first | exact Below.refl _ _ | exact bel_al (Below.refl _ _) _ | exact bel_al (bel_al (Below.refl _ _) _) _ | exact bel_dr (Below.refl _ _) | exact bel_dr (bel_al (Below.refl _ _) _) | exact bel_dr (bel_al (bel_al (Below.refl _ _) _) _) | exact bel_dr (bel_dr (Below.refl _ _)) | exact bel_dr (bel_dr (bel_al (Below.refl _ _) _)) | exact bel_dr (bel_dr (bel_al (bel_al (Below.refl _ _) _) _)) | exact bel_dr (bel_dr (bel_dr (Below.refl _ _))) | exact bel_dr (bel_dr (bel_dr (bel_al (Below.refl _ _) _))) | exact bel_dr (bel_dr (bel_dr (bel_al (bel_al (Below.refl _ _) _) _))))) (by first | exact heap_alloc_new _ _ | exact N7.out _ _ (by simp) (heap_alloc_new _ _) | exact N7.out _ _ (by simp) (h2a _ _ _) | exact N7.out _ _ (by simp) (h2b _ _ _)) (P7.out.2.2.2.1.bel (by first | exact Below.refl _ _ | exact bel_al (Below.refl _ _) _ | exact bel_al (bel_al (Below.refl _ _) _) _ | exact bel_dr (Below.refl _ _) | exact bel_dr (bel_al (Below.refl _ _) _) | exact bel_dr (bel_al (bel_al (Below.refl _ _) _) _) | exact bel_dr (bel_dr (Below.refl _ _)) | exact bel_dr (bel_dr (bel_al (Below.refl _ _) _)) | exact bel_dr (bel_dr (bel_al (bel_al (Below.refl _ _) _) _)) | exact bel_dr (bel_dr (bel_dr (Below.refl _ _))) | exact bel_dr (bel_dr (bel_dr (bel_al (Below.refl _ _) _))) | exact bel_dr (bel_dr (bel_dr (bel_al (bel_al (Below.refl _ _) _) _))))) (by omega) (fun j hj => Nat.lt_of_lt_of_le (P7.out.2.2.2.2.1 j hj) (szle (a := w7) (by first | exact Below.refl _ _ | exact bel_al (Below.refl _ _) _ | exact bel_al (bel_al (Below.refl _ _) _) _ | exact bel_dr (Below.refl _ _) | exact bel_dr (bel_al (Below.refl _ _) _) | exact bel_dr (bel_al (bel_al (Below.refl _ _) _) _) | exact bel_dr (bel_dr (Below.refl _ _)) | exact bel_dr (bel_dr (bel_al (Below.refl _ _) _)) | exact bel_dr (bel_dr (bel_al (bel_al (Below.refl _ _) _) _)) | exact bel_dr (bel_dr (bel_dr (Below.refl _ _))) | exact bel_dr (bel_dr (bel_dr (bel_al (Below.refl _ _) _))) | exact bel_dr (bel_dr (bel_dr (bel_al (bel_al (Below.refl _ _) _) _)))))) ?_; intro g8 c8 w8 h8 q8 o8; have P8 := hidI (two_up (a := w7) (by first | exact Below.refl _ _ | exact bel_al (Below.refl _ _) _ | exact bel_al (bel_al (Below.refl _ _) _) _ | exact bel_dr (Below.refl _ _) | exact bel_dr (bel_al (Below.refl _ _) _) | exact bel_dr (bel_al (bel_al (Below.refl _ _) _) _) | exact bel_dr (bel_dr (Below.refl _ _)) | exact bel_dr (bel_dr (bel_al (Below.refl _ _) _)) | exact bel_dr (bel_dr (bel_al (bel_al (Below.refl _ _) _) _)) | exact bel_dr (bel_dr (bel_dr (Below.refl _ _))) | exact bel_dr (bel_dr (bel_dr (bel_al (Below.refl _ _) _))) | exact bel_dr (bel_dr (bel_dr (bel_al (bel_al (Below.refl _ _) _) _)))) q8 o8); have P9 := hidI h8; have v5 := P8.out.1.cell v1 (by simpa using nXL.out); have v6 := P8.out.1.cell v2 (by simpa using nYL.out); clear h8 q8 o8) | (refine step_push (by rfl) _ _ (by rfl) (by rfl) (by rfl) (WR.out.bel (by first | exact Below.refl _ _ | exact bel_al (Below.refl _ _) _ | exact bel_al (bel_al (Below.refl _ _) _) _ | exact bel_dr (Below.refl _ _) | exact bel_dr (bel_al (Below.refl _ _) _) | exact bel_dr (bel_al (bel_al (Below.refl _ _) _) _) | exact bel_dr (bel_dr (Below.refl _ _)) | exact bel_dr (bel_dr (bel_al (Below.refl _ _) _)) | exact bel_dr (bel_dr (bel_al (bel_al (Below.refl _ _) _) _)) | exact bel_dr (bel_dr (bel_dr (Below.refl _ _))) | exact bel_dr (bel_dr (bel_dr (bel_al (Below.refl _ _) _))) | exact bel_dr (bel_dr (bel_dr (bel_al (bel_al (Below.refl _ _) _) _))))) (by first | exact heap_alloc_new _ _ | exact h2a _ _ _ | exact h2b _ _ _) (VY4.out.bel (by first | exact Below.refl _ _ | exact bel_al (Below.refl _ _) _ | exact bel_al (bel_al (Below.refl _ _) _) _ | exact bel_dr (Below.refl _ _) | exact bel_dr (bel_al (Below.refl _ _) _) | exact bel_dr (bel_al (bel_al (Below.refl _ _) _) _) | exact bel_dr (bel_dr (Below.refl _ _)) | exact bel_dr (bel_dr (bel_al (Below.refl _ _) _)) | exact bel_dr (bel_dr (bel_al (bel_al (Below.refl _ _) _) _)) | exact bel_dr (bel_dr (bel_dr (Below.refl _ _))) | exact bel_dr (bel_dr (bel_dr (bel_al (Below.refl _ _) _))) | exact bel_dr (bel_dr (bel_dr (bel_al (bel_al (Below.refl _ _) _) _))))) (by omega) (fun j hj => Nat.lt_of_lt_of_le (LB.out j hj) (szle (a := w4) (by first | exact Below.refl _ _ | exact bel_al (Below.refl _ _) _ | exact bel_al (bel_al (Below.refl _ _) _) _ | exact bel_dr (Below.refl _ _) | exact bel_dr (bel_al (Below.refl _ _) _) | exact bel_dr (bel_al (bel_al (Below.refl _ _) _) _) | exact bel_dr (bel_dr (Below.refl _ _)) | exact bel_dr (bel_dr (bel_al (Below.refl _ _) _)) | exact bel_dr (bel_dr (bel_al (bel_al (Below.refl _ _) _) _)) | exact bel_dr (bel_dr (bel_dr (Below.refl _ _))) | exact bel_dr (bel_dr (bel_dr (bel_al (Below.refl _ _) _))) | exact bel_dr (bel_dr (bel_dr (bel_al (bel_al (Below.refl _ _) _) _)))))) ?_; intro g7 c7 w7 h7 q7 o7; have P7 : Hid _ := hidI (midR.out _ _ _ _ (by first | exact Below.refl _ _ | exact bel_al (Below.refl _ _) _ | exact bel_al (bel_al (Below.refl _ _) _) _ | exact bel_dr (Below.refl _ _) | exact bel_dr (bel_al (Below.refl _ _) _) | exact bel_dr (bel_al (bel_al (Below.refl _ _) _) _) | exact bel_dr (bel_dr (Below.refl _ _)) | exact bel_dr (bel_dr (bel_al (Below.refl _ _) _)) | exact bel_dr (bel_dr (bel_al (bel_al (Below.refl _ _) _) _)) | exact bel_dr (bel_dr (bel_dr (Below.refl _ _))) | exact bel_dr (bel_dr (bel_dr (bel_al (Below.refl _ _) _))) | exact bel_dr (bel_dr (bel_dr (bel_al (bel_al (Below.refl _ _) _) _)))) h7 q7 o7); obtain ⟨v1, v2, v3, v4⟩ := P7.out.1; have N7 : Hid _ := hidI P7.out.2.1; clear h7 q7 o7) | (refine step_push (by rfl) _ _ (by rfl) (by rfl) (by rfl) (P7.out.2.2.1.bel (by first | exact Below.refl _ _ | exact bel_al (Below.refl _ _) _ | exact bel_al (bel_al (Below.refl _ _) _) _ | exact bel_dr (Below.refl _ _) | exact bel_dr (bel_al (Below.refl _ _) _) | exact bel_dr (bel_al (bel_al (Below.refl _ _) _) _) | exact bel_dr (bel_dr (Below.refl _ _)) | exact bel_dr (bel_dr (bel_al (Below.refl _ _) _)) | exact bel_dr (bel_dr (bel_al (bel_al (Below.refl _ _) _) _)) | exact bel_dr (bel_dr (bel_dr (Below.refl _ _))) | exact bel_dr (bel_dr (bel_dr (bel_al (Below.refl _ _) _))) | exact bel_dr (bel_dr (bel_dr (bel_al (bel_al (Below.refl _ _) _) _))))) (by first | exact heap_alloc_new _ _ | exact N7.out _ _ (by simp) (heap_alloc_new _ _) | exact N7.out _ _ (by simp) (h2a _ _ _) | exact N7.out _ _ (by simp) (h2b _ _ _)) (P7.out.2.2.2.1.bel (by first | exact Below.refl _ _ | exact bel_al (Below.refl _ _) _ | exact bel_al (bel_al (Below.refl _ _) _) _ | exact bel_dr (Below.refl _ _) | exact bel_dr (bel_al (Below.refl _ _) _) | exact bel_dr (bel_al (bel_al (Below.refl _ _) _) _) | exact bel_dr (bel_dr (Below.refl _ _)) | exact bel_dr (bel_dr (bel_al (Below.refl _ _) _)) | exact bel_dr (bel_dr (bel_al (bel_al (Below.refl _ _) _) _)) | exact bel_dr (bel_dr (bel_dr (Below.refl _ _))) | exact bel_dr (bel_dr (bel_dr (bel_al (Below.refl _ _) _))) | exact bel_dr (bel_dr (bel_dr (bel_al (bel_al (Below.refl _ _) _) _))))) (by omega) (fun j hj => Nat.lt_of_lt_of_le (P7.out.2.2.2.2.1 j hj) (szle (a := w7) (by first | exact Below.refl _ _ | exact bel_al (Below.refl _ _) _ | exact bel_al (bel_al (Below.refl _ _) _) _ | exact bel_dr (Below.refl _ _) | exact bel_dr (bel_al (Below.refl _ _) _) | exact bel_dr (bel_al (bel_al (Below.refl _ _) _) _) | exact bel_dr (bel_dr (Below.refl _ _)) | exact bel_dr (bel_dr (bel_al (Below.refl _ _) _)) | exact bel_dr (bel_dr (bel_al (bel_al (Below.refl _ _) _) _)) | exact bel_dr (bel_dr (bel_dr (Below.refl _ _))) | exact bel_dr (bel_dr (bel_dr (bel_al (Below.refl _ _) _))) | exact bel_dr (bel_dr (bel_dr (bel_al (bel_al (Below.refl _ _) _) _)))))) ?_; intro g8 c8 w8 h8 q8 o8; have P8 := hidI (two_up (a := w7) (by first | exact Below.refl _ _ | exact bel_al (Below.refl _ _) _ | exact bel_al (bel_al (Below.refl _ _) _) _ | exact bel_dr (Below.refl _ _) | exact bel_dr (bel_al (Below.refl _ _) _) | exact bel_dr (bel_al (bel_al (Below.refl _ _) _) _) | exact bel_dr (bel_dr (Below.refl _ _)) | exact bel_dr (bel_dr (bel_al (Below.refl _ _) _)) | exact bel_dr (bel_dr (bel_al (bel_al (Below.refl _ _) _) _)) | exact bel_dr (bel_dr (bel_dr (Below.refl _ _))) | exact bel_dr (bel_dr (bel_dr (bel_al (Below.refl _ _) _))) | exact bel_dr (bel_dr (bel_dr (bel_al (bel_al (Below.refl _ _) _) _)))) q8 o8); have P9 := hidI h8; have v5 := P8.out.1.cell v1 (by simpa using nXR.out); have v6 := P8.out.1.cell v2 (by simpa using nYR.out); clear h8 q8 o8))
                  all_goals
                    go_wp2_with fail
                    go_roundg (xs.length - (k + 1))
                    case measure => rw [GI.out]; omega
                    case rel => first
                      | exact ⟨k + 1, hlt, rfl, by go_num, FINL.out _ _ _ _ _ _ P7.out.2.2.2.2.2.1 P7.out.2.2.2.2.2.2.1 P7.out.2.2.2.2.2.2.2 P8.out.1 P9.out P8.out.2⟩
                      | exact ⟨k + 1, hlt, rfl, by go_num, FINR.out _ _ _ _ _ _ P7.out.2.2.2.2.2.1 P7.out.2.2.2.2.2.2.1 P7.out.2.2.2.2.2.2.2 P8.out.1 P9.out P8.out.2⟩
          · have FIN : Hid ((∃ ls2 rs2, (a = b ↔ ls2 = rs2) ∧ PL ls2 rs2 ∧ mu ls = mu ls2 ∧ mu ls2 ≤ 2000000000001 ∧ SI w ok ok' ia ib ls2 rs2 (.slice (some ⟨gL', 0, none⟩) ls.length cL') (.slice (some ⟨gR', 0, none⟩) rs.length cR') wr) ∧ mu ls < M) := by
              obtain ⟨j1, j2, j3, j5, j6, j7⟩ := J.out
              have l1 : xs.drop k = [] := List.drop_eq_nil_of_le (by omega)
              have l2 : ys.drop k = [] := List.drop_eq_nil_of_le (by have := HXY.out; omega)
              have := GM.out
              exact hidI ⟨⟨ls, rs, by rw [j1, l1, l2]; simp, j2, rfl, by omega, gL', gR', cL', cR', rfl, rfl, j7⟩, by omega⟩
            have d1 : ¬ (k : Int) < (xs.length : Int) := by omega
            clear i5 i6 J
            go_wp2_with fail
            go_roundg (mu ls)
            case measure => rw [GKM.out]; exact FIN.out.2
            case rel => exact FIN.out.1
end Go.Proofs.YtmdemcjmcnfjmaaGreatDoor

set_option linter.unusedSimpArgs false
set_option linter.unusedVariables false
namespace Go.Proofs.YtmdemcjmcnfjmaaGreatDoor
open Go.RowKit

/- A wish in memory: what is wanted, beside its leaves. -/
def WishIs (w : World) (ok : Nat → Prop) (t : V) (L : List (List UInt8)) (v : Value) : Prop :=
  ∃ (a1 a2 a3 : Option Addr) (c1 c2 c3 : Nat), v = .agg #[.int .i64 t.kind, .int .i64 t.n, .string ⟨t.s.toArray⟩, .slice a1 t.keys.length c1, .slice a2 t.l.length c2, .slice a3 L.length c3] ∧
    In w ok t (.agg #[.int .i64 t.kind, .int .i64 t.n, .string ⟨t.s.toArray⟩, .slice a1 t.keys.length c1, .slice a2 t.l.length c2]) ∧ StrsAre w ok L (.slice a3 L.length c3)
theorem WishIs.bel {w w' : World} {ok : Nat → Prop} {t : V} {L : List (List UInt8)} {v : Value} (h : WishIs w ok t L v) (hb : Below w.heap.size w w') : WishIs w' ok t L v := by
  obtain ⟨a1, a2, a3, c1, c2, c3, rfl, h1, h2⟩ := h
  exact ⟨a1, a2, a3, c1, c2, c3, rfl, h1.bel hb, h2.imp fun a x h1 h2 => ⟨h1, cell_bel hb h2⟩⟩
theorem WishIs.weak {w : World} {ok ok' : Nat → Prop} {t : V} {L : List (List UInt8)} {v : Value} (h : WishIs w ok t L v) (hk : ∀ k, ok k → ok' k) : WishIs w ok' t L v := by
  obtain ⟨a1, a2, a3, c1, c2, c3, rfl, h1, h2⟩ := h
  exact ⟨a1, a2, a3, c1, c2, c3, rfl, h1.weak hk, h2.imp fun a x h1 h2 => ⟨hk _ h1, h2⟩⟩
/- A box of six cells. -/
theorem box6 {w : World} {g : Nat} {a b c d e f : Value} {t : TypeId} (h : w.heap[g]? = some (.cells #[a, b, c, d, e, f] t)) : w.cell? ⟨g, 0, none⟩ = some a ∧ w.cell? ⟨g, 1, none⟩ = some b ∧ w.cell? ⟨g, 2, none⟩ = some c ∧ w.cell? ⟨g, 3, none⟩ = some d ∧ w.cell? ⟨g, 4, none⟩ = some e ∧ w.cell? ⟨g, 5, none⟩ = some f := by
  refine ⟨?_, ?_, ?_, ?_, ?_, ?_⟩ <;> simp [World.cell?, h]
theorem blk_bel {w w' : World} {g : Nat} {o : Obj} (hb : Below w.heap.size w w') (h : w.heap[g]? = some o) : w'.heap[g]? = some o := (hb.block g (Array.getElem?_eq_some_iff.1 h).1).trans h

set_option maxRecDepth 100000 in
set_option maxHeartbeats 4000000 in
theorem hasLeaf_at (w : World) (ok : Nat → Prop) (t : V) (L : List (List UInt8)) (v : Value) (p : List UInt8) (h : WishIs w ok t L v) (hr : Rises L) (hn : L.length < 4611686018427387904) :
    Calls Tryz.prog 51 #[v, .string ⟨p.toArray⟩] w fun e w' => e = .returned (.bool (L.contains p)) ∧ Below w.heap.size w w' := by
  obtain ⟨a1, a2, a3, c1, c2, c3, rfl, h1, h2⟩ := h
  have H2 := hidI h2
  have HR := hidI hr
  have HN := hidI hn
  have ll := h2.1
  unfold maxLen at ll
  clear h1 h2 hr hn
  have C : Hid (∀ W, Below w.heap.size w W → Calls Tryz.prog 80 #[.slice a3 L.length c3, .string ⟨p.toArray⟩, .func (.func 34) #[] #[]] W fun e w' => e = .returned (.tuple #[.int .i64 (L.countP (fun x => Op.bytesLess x p) : Nat), .bool (L.contains p)]) ∧ Below W.heap.size W w') := hidI (fun W hW => searchS_at W ok L _ p (H2.out.imp fun a x h1 h2 => ⟨h1, cell_bel hW h2⟩) HR.out HN.out)
  generalize L.contains p = o at C ⊢
  go_enter Tryz.func51, Tryz.ntmps51
  go_wp2_with (go_at_call 80; refine (C.out _ (bel_alloc _ _)).mono ?_; rintro e w1 ⟨rfl, hb⟩)
  go_ret
  exact ⟨rfl, bel_trans (bel_alloc _ _) hb⟩

set_option maxRecDepth 100000 in
set_option maxHeartbeats 4000000 in
theorem other_at (w : World) (ok ok' : Nat → Prop) (want t : V) (L : List (List UInt8)) (v vt : Value) (p : List UInt8) (h : WishIs w ok want L v) (ht : In w ok' t vt) (hp : p.length ≤ 140737488351232) (hM : GlobM w) (hc : cnt ((thr (namesP p) t).getD zeroT) ≤ 2000000000000) :
    Calls Tryz.prog 52 #[v, vt, .string ⟨p.toArray⟩] w fun e w' => e = .returned (.bool (otherF want t p)) ∧ Below w.heap.size w w' := by
  obtain ⟨a1, a2, a3, c1, c2, c3, rfl, h1, h2⟩ := h
  have HT := hidI ht
  have H1 := hidI h1
  have HM := hidI hM
  have HC := hidI hc
  obtain ⟨b1, b2, d1, d2, rfl⟩ := ht.form
  clear ht h1 h2 hM hc
  obtain ⟨x, hx⟩ : ∃ x, (thr (namesP p) t).getD zeroT = x := ⟨_, rfl⟩
  obtain ⟨y, hy⟩ : ∃ y, (thr (namesP p) want).getD zeroT = y := ⟨_, rfl⟩
  obtain ⟨there, hth⟩ : ∃ b, (thr (namesP p) t).isSome = b := ⟨_, rfl⟩
  obtain ⟨there2, hth2⟩ : ∃ b, (thr (namesP p) want).isSome = b := ⟨_, rfl⟩
  have S1 : Hid (∀ W, Below w.heap.size w W → Calls Tryz.prog 56 #[.agg #[.int .i64 t.kind, .int .i64 t.n, .string ⟨t.s.toArray⟩, .slice b1 t.keys.length d1, .slice b2 t.l.length d2], .string ⟨p.toArray⟩] W fun e w' => ∃ r, e = .returned (.tuple #[r, .bool there]) ∧ Below W.heap.size W w' ∧ In w' ok' x r) := hidI (fun W hW => by
    have := standing_is W ok' t _ p (HT.out.bel hW) hp (HM.out.bel hW)
    rw [hx, hth] at this; exact this)
  have S2 : Hid (∀ W, Below w.heap.size w W → Calls Tryz.prog 56 #[.agg #[.int .i64 want.kind, .int .i64 want.n, .string ⟨want.s.toArray⟩, .slice a1 want.keys.length c1, .slice a2 want.l.length c2], .string ⟨p.toArray⟩] W fun e w' => ∃ r, e = .returned (.tuple #[r, .bool there2]) ∧ Below W.heap.size W w' ∧ In w' ok y r) := hidI (fun W hW => by
    have := standing_is W ok want _ p (H1.out.bel hW) hp (HM.out.bel hW)
    rw [hy, hth2] at this; exact this)
  have R1 : Hid (there = false → otherF want t p = true) := hidI (fun h9 => by
    unfold otherF
    cases h8 : thr (namesP p) t with
    | none => rfl
    | some z => rw [h8, h9] at hth; cases hth)
  have TS : there = true → thr (namesP p) t = some x := fun h9 => by
    cases h8 : thr (namesP p) t with
    | none => rw [h8, h9] at hth; cases hth
    | some z => rw [h8] at hx; simp at hx; rw [hx]
  have R2 : Hid (there = true → (x = y ∨ x.kind = 5 ∧ y.kind = 5) → otherF want t p = false) := hidI (fun h9 h8 => other_no (TS h9) (by rw [hy]; exact h8))
  have R4 : Hid (there = true → ¬ (x = y ∨ x.kind = 5 ∧ y.kind = 5) → otherF want t p = true) := hidI (fun h9 h8 => by
    cases h7 : otherF want t p with
    | true => rfl
    | false =>
      obtain ⟨z, h1, h2⟩ := other_not h7
      rw [TS h9] at h1
      cases h1
      rw [hy] at h2
      exact absurd h2 h8)
  rw [hx] at HC
  clear hx hy hth hth2 TS
  have B2 : Hid (∀ o1 o2, Below w.heap.size w ((w.alloc o1).alloc o2)) := fun o1 o2 => bel_trans (bel_alloc _ _) (bel_alloc _ _)
  go_enter Tryz.func52, Tryz.ntmps52
  go_upto_region 2 with (go_at_call 56; refine (S1.out _ (B2.out _ _)).mono ?_; rintro e w1 ⟨r, rfl, hb1, hr⟩; obtain ⟨x1, x2, y1, y2, rfl⟩ := hr.form; have HX := hidI hr; have BW1 := hidI hb1; clear hb1 hr)
  obtain ⟨WX, hWX⟩ : ∃ W, W = w1.alloc (.cells #[.int .i64 x.kind, .int .i64 x.n, .string ⟨x.s.toArray⟩, .slice x1 x.keys.length y1, .slice x2 x.l.length y2] 25) := ⟨_, rfl⟩
  have BX : Hid (Below w1.heap.size w1 WX) := hidI (by rw [hWX]; exact bel_alloc _ _)
  have XB : Hid (BoxIs WX w1.heap.size (.int .i64 x.kind) (.int .i64 x.n) (.string ⟨x.s.toArray⟩) (.slice x1 x.keys.length y1) (.slice x2 x.l.length y2)) := hidI (by rw [hWX]; exact heap_alloc_new _ _)
  have XI := hidI (HX.out.bel BX.out)
  have BW2 := hidI (bel_trans (B2.out _ _) (bel_trans BW1.out BX.out))
  obtain ⟨q0, q1, q2, q3, q4, -⟩ := box6 (blk_bel (bel_trans BW1.out BX.out) (h2a w (.cells #[.int .i64 want.kind, .int .i64 want.n, .string ⟨want.s.toArray⟩, .slice a1 want.keys.length c1, .slice a2 want.l.length c2, .slice a3 L.length c3] 53) _))
  rw [← hWX]
  clear hWX HX BX BW1
  go_upto_region 3 with (go_at_call 56; refine (S2.out _ BW2.out).mono ?_; rintro e w2 ⟨r, rfl, hb2, hr⟩; obtain ⟨u1, u2, z1, z2, rfl⟩ := hr.form; have HY := hidI hr; have BY1 := hidI hb2; clear hb2 hr)
  obtain ⟨WY, hWY⟩ : ∃ W, W = w2.alloc (.cells #[.int .i64 y.kind, .int .i64 y.n, .string ⟨y.s.toArray⟩, .slice u1 y.keys.length z1, .slice u2 y.l.length z2] 25) := ⟨_, rfl⟩
  have BY : Hid (Below w2.heap.size w2 WY) := hidI (by rw [hWY]; exact bel_alloc _ _)
  have YB : Hid (BoxIs WY w2.heap.size (.int .i64 y.kind) (.int .i64 y.n) (.string ⟨y.s.toArray⟩) (.slice u1 y.keys.length z1) (.slice u2 y.l.length z2)) := hidI (by rw [hWY]; exact heap_alloc_new _ _)
  have YI := hidI (HY.out.bel BY.out)
  have XI2 := hidI (XI.out.bel (bel_trans BY1.out BY.out))
  have XB2 := hidI (box_bel (bel_trans BY1.out BY.out) XB.out)
  have BW3 := hidI (bel_trans BW2.out (bel_trans BY1.out BY.out))
  rw [← hWY]
  clear hWY HY BY BY1 q0 q1 q2 q3 q4 XB XI
  obtain ⟨p0, p1, p2, p3, p4, -⟩ := XB2.out.c
  obtain ⟨r0, r1, r2, r3, r4, -⟩ := YB.out.c
  cases there with
  | false =>
    have R := hidI (R1.out rfl)
    go_wp2_with fail
    go_ret
    exact ⟨by rw [R.out]; rfl, BW3.out⟩
  | true =>
    have SM := hidI (same_run WY ok' ok x y _ _ XI2.out YI.out HC.out)
    have PB : Hid (∀ W, Below WY.heap.size WY W → BoxIs W w1.heap.size (.int .i64 x.kind) (.int .i64 x.n) (.string ⟨x.s.toArray⟩) (.slice x1 x.keys.length y1) (.slice x2 x.l.length y2) ∧ BoxIs W w2.heap.size (.int .i64 y.kind) (.int .i64 y.n) (.string ⟨y.s.toArray⟩) (.slice u1 y.keys.length z1) (.slice u2 y.l.length z2)) := hidI (fun W hW => ⟨box_bel hW XB2.out, box_bel hW YB.out⟩)
    by_cases hxy : x = y
    · have R := hidI (R2.out rfl (.inl hxy))
      have HXY := hidI hxy
      clear hxy
      go_wp2_with (go_at_call 31; refine SM.out.mono ?_; rintro e w3 ⟨r, rfl, hr, hb⟩; have hrt := hr.2 HXY.out; subst hrt; clear hr; have B3 := hidI (bel_trans BW3.out hb); clear hb)
      go_ret
      exact ⟨by rw [R.out]; rfl, B3.out⟩
    · by_cases hk : x.kind = 5
      · have e1 : (x.kind == 5) = true := by simp [hk]
        by_cases hk2 : y.kind = 5
        · have e2 : (y.kind == 5) = true := by simp [hk2]
          have R := hidI (R2.out rfl (.inr ⟨hk, hk2⟩))
          have NXY := hidI hxy
          clear hk hk2 hxy
          go_wp2_with (go_at_call 31; refine SM.out.mono ?_; rintro e w3 ⟨r, rfl, hr, hb⟩; have hrt : r = false := (by cases r; rfl; exact absurd (hr.1 rfl) NXY.out); subst hrt; clear hr; have B3 := hidI (bel_trans BW3.out hb); obtain ⟨g0, -⟩ := (PB.out _ hb).1.c; obtain ⟨g1, -⟩ := (PB.out _ hb).2.c; clear hb)
          go_ret
          exact ⟨by rw [R.out]; rfl, B3.out⟩
        · have e2 : (y.kind == 5) = false := by rw [beq_eq_false_iff_ne]; exact hk2
          have R := hidI (R4.out rfl (fun h9 => h9.elim hxy (fun h8 => hk2 h8.2)))
          have NXY := hidI hxy
          clear hk hk2 hxy
          go_wp2_with (go_at_call 31; refine SM.out.mono ?_; rintro e w3 ⟨r, rfl, hr, hb⟩; have hrt : r = false := (by cases r; rfl; exact absurd (hr.1 rfl) NXY.out); subst hrt; clear hr; have B3 := hidI (bel_trans BW3.out hb); obtain ⟨g0, -⟩ := (PB.out _ hb).1.c; obtain ⟨g1, -⟩ := (PB.out _ hb).2.c; clear hb)
          go_ret
          exact ⟨by rw [R.out]; rfl, B3.out⟩
      · have e1 : (x.kind == 5) = false := by rw [beq_eq_false_iff_ne]; exact hk
        have R := hidI (R4.out rfl (fun h9 => h9.elim hxy (fun h8 => hk h8.1)))
        have NXY := hidI hxy
        clear hk hxy
        go_wp2_with (go_at_call 31; refine SM.out.mono ?_; rintro e w3 ⟨r, rfl, hr, hb⟩; have hrt : r = false := (by cases r; rfl; exact absurd (hr.1 rfl) NXY.out); subst hrt; clear hr; have B3 := hidI (bel_trans BW3.out hb); obtain ⟨g0, -⟩ := (PB.out _ hb).1.c; obtain ⟨g1, -⟩ := (PB.out _ hb).2.c; clear hb)
        go_ret
        exact ⟨by rw [R.out]; rfl, B3.out⟩
end Go.Proofs.YtmdemcjmcnfjmaaGreatDoor
