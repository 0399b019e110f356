/- What MemberOf of package stairwellref does. -/
import Derived.Test.YtaaaogiheplbmaaXz
set_option linter.unusedSimpArgs false
set_option linter.unusedVariables false
namespace Go.Proofs.Ytaaaogiheplbmaa
open Go.RowKit

theorem idx_drop {key : List UInt8} {xs : List (List UInt8)} {k : Nat} (h : k < xs.length) (hne : xs[k] ≠ key) : (idxL key (xs.drop k)).map (· + k) = (idxL key (xs.drop (k + 1))).map (· + (k + 1)) := by
  rw [List.drop_eq_getElem_cons h, idxL, if_neg hne]
  cases idxL key (xs.drop (k + 1)) with
  | none => rfl
  | some i => simp; omega

set_option maxRecDepth 100000 in
set_option maxHeartbeats 40000000 in
theorem rmember_is (w : World) (ok : Nat → Prop) (t : V) (v : Value) (key : List UInt8) (h : In w ok t v) :
    Calls Try.prog 20 #[v, str key] w fun e w' => ∃ x, e = .returned (.tuple #[x, .bool (memV t key).isSome]) ∧ Below w.heap.size w w' ∧ In w' ok ((memV t key).getD zeroT) x := by
  have H := hidI h
  obtain ⟨l1, l2, l3⟩ := h.lens
  obtain ⟨a1, a2, c1, c2, rfl⟩ := h.form
  clear h
  unfold str
  have B2 : Hid (∀ o1 o2, Below w.heap.size w ((w.alloc o1).alloc o2)) := fun o1 o2 => bel_trans (bel_alloc _ _) (bel_alloc _ _)
  by_cases hk : t.kind = 5
  · have e0 : (t.kind != 5) = false := by rw [hk]; rfl
    by_cases hl : t.keys.length = t.l.length
    · have e1 : ((t.keys.length : Int) != (t.l.length : Int)) = false := by simp [hl]
      have HM : Hid (memV t key = (idxL key t.keys).bind fun i => t.l[i]?) := hidI (by simp [memV, findV, pairedV, hk, hl])
      have HL := hidI hl
      clear hk hl
      go_enter Try.func20, Try.ntmps20
      go_wp2_with fail
      go_loop [23] (fun i => ∃ k : Nat, k ≤ t.keys.length ∧ i = .int .i64 k ∧ Hid (idxL key t.keys = (idxL key (t.keys.drop k)).map (· + k))) (fun i => t.keys.length - (intOf i).toNat)
      case atStart => exact ⟨0, Nat.zero_le _, rfl, hidI (by simp)⟩
      case round =>
        obtain ⟨k, hk, rfl, HI⟩ := hrel
        by_cases hlt : k < t.keys.length
        · have hlt' : k < t.l.length := by have := HL.out; omega
          obtain ⟨kb, ko, rfl, j1, j2, jk, jl⟩ := H.out.key hlt
          obtain ⟨xb, xo, b5, d5, b6, d6, rfl, j3, j4, g0, g1, g2, g3, g4, g5⟩ := H.out.item hlt'
          have w1 : (0 : Int) ≤ (k : Int) := by omega
          have w2 : (k : Int) < (t.keys.length : Int) := by omega
          have w3 : (k : Int) < (t.l.length : Int) := by omega
          have hbb := B2.out (.cells #[.int .i64 t.kind, .int .i64 t.n, .string ⟨t.s.toArray⟩, .slice (some ⟨kb, ko, none⟩) t.keys.length c1, .slice (some ⟨xb, xo, none⟩) t.l.length c2] 25) (.cells #[.int .i64 0, .int .i64 0, .string ⟨#[]⟩, .slice none 0 0, .slice none 0 0] 25)
          replace jk := cell_bel hbb jk
          replace g0 := cell_bel hbb g0
          replace g1 := cell_bel hbb g1
          replace g2 := cell_bel hbb g2
          replace g3 := cell_bel hbb g3
          replace g4 := cell_bel hbb g4
          have G5 := hidI g5
          clear g5 hbb
          by_cases he : t.keys[k] = key
          · have e3 : (t.keys[k] == key) = true := by rw [beq_iff_eq]; exact he
            have HX : Hid (memV t key = some t.l[k]) := hidI (by
              rw [HM.out, HI.out, List.drop_eq_getElem_cons hlt, idxL, if_pos he]
              simp [List.getElem?_eq_getElem hlt'])
            clear he
            have BX := hidI (G5.out.bel (B2.out (.cells #[.int .i64 t.kind, .int .i64 t.n, .string ⟨t.s.toArray⟩, .slice (some ⟨kb, ko, none⟩) t.keys.length c1, .slice (some ⟨xb, xo, none⟩) t.l.length c2] 25) (.cells #[.int .i64 t.l[k].kind, .int .i64 t.l[k].n, .string ⟨t.l[k].s.toArray⟩, .slice b5 t.l[k].keys.length d5, .slice b6 t.l[k].l.length d6] 25)))
            go_wp2_with fail
            refine bodyPost_ret (v := .tuple #[.agg #[.int .i64 t.l[k].kind, .int .i64 t.l[k].n, .string ⟨t.l[k].s.toArray⟩, .slice b5 t.l[k].keys.length d5, .slice b6 t.l[k].l.length d6], .bool true]) ?_ rfl ?_
            · simp [results, Try.results20, go_sem]
            · exact ⟨_, by rw [HX.out]; rfl, B2.out _ _, by rw [HX.out]; exact BX.out⟩
          · have e3 : (t.keys[k] == key) = false := by rw [beq_eq_false_iff_ne]; exact he
            have HN : Hid (idxL key t.keys = (idxL key (t.keys.drop (k + 1))).map (· + (k + 1))) := hidI (by rw [HI.out, idx_drop hlt he])
            clear he
            go_wp2_with fail
            go_round
            case rel => exact ⟨k + 1, by omega, by go_num, HN⟩
            case measure => simp [intOf]; omega
        · have l1 : t.keys.drop k = [] := List.drop_eq_nil_of_le (by omega)
          have d1 : ¬ (k : Int) < (t.keys.length : Int) := by omega
          have HM2 : Hid (memV t key = none) := hidI (by rw [HM.out, HI.out, l1]; rfl)
          clear HM l1
          have HM := HM2
          go_wp2_with fail
          refine bodyPost_ret (v := .tuple #[.agg #[.int .i64 0, .int .i64 0, .string ⟨#[]⟩, .slice none 0 0, .slice none 0 0], .bool false]) ?_ rfl ?_
          · simp [results, Try.results20, go_sem]
          · exact ⟨_, by rw [HM.out]; rfl, B2.out _ _, by rw [HM.out]; exact in_zero _ _⟩
    · have e1 : ((t.keys.length : Int) != (t.l.length : Int)) = true := by rw [bne_iff_ne]; omega
      have HM : Hid (memV t key = none) := hidI (by simp [memV, findV, pairedV, hl])
      clear hk hl
      go_enter Try.func20, Try.ntmps20
      go_wp2_with fail
      refine bodyPost_ret (v := .tuple #[.agg #[.int .i64 0, .int .i64 0, .string ⟨#[]⟩, .slice none 0 0, .slice none 0 0], .bool false]) ?_ rfl ?_
      · simp [results, Try.results20, go_sem]
      · exact ⟨_, by rw [HM.out]; rfl, B2.out _ _, by rw [HM.out]; exact in_zero _ _⟩
  · have e0 : (t.kind != 5) = true := by rw [bne_iff_ne]; exact hk
    have HM : Hid (memV t key = none) := hidI (by simp [memV, findV, pairedV, hk])
    clear hk
    go_enter Try.func20, Try.ntmps20
    go_wp2_with fail
    refine bodyPost_ret (v := .tuple #[.agg #[.int .i64 0, .int .i64 0, .string ⟨#[]⟩, .slice none 0 0, .slice none 0 0], .bool false]) ?_ rfl ?_
    · simp [results, Try.results20, go_sem]
    · exact ⟨_, by rw [HM.out]; rfl, B2.out _ _, by rw [HM.out]; exact in_zero _ _⟩
end Go.Proofs.Ytaaaogiheplbmaa
