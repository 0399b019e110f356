/- What Count of package json does. -/
import Derived.Test.YtkboplcffailoaaGreatDoorSl
import Derived.Test.YtkboplcffailoaaGreatDoorFp
set_option linter.unusedSimpArgs false
set_option linter.unusedVariables false
namespace Go.Proofs.YtkboplcffailoaaGreatDoor
open Go.RowKit

theorem wait_first {w : World} {g B : Nat} {ok : Nat → Prop} {l : List V} {c : Value} (hv : ValsIn w ok l c) (h2 : w.heap[g]? = some (.cells #[c] 23)) (hB : B ≤ g) (hne : ∀ k, ok k → k ≠ g) : Wait w B ok [l] g 1 := by
  refine ⟨[c], own_one h2 hB, ⟨rfl, ?_⟩, hne⟩
  intro j l' c' h3 h4
  cases j with
  | zero =>
    simp only [List.getElem?_cons_zero, Option.some.injEq] at h3 h4
    subst h3 h4
    exact hv
  | succ j => simp at h3
theorem bel_push {w wi W w7 : World} {g : Nat} (h1 : Below w.heap.size w wi) (h2 : Below wi.heap.size wi W) (k : W.grownBy w7 (some g)) (hg : w.heap.size ≤ g) : Below w.heap.size w w7 := by
  have h := bel_trans h1 h2
  exact ⟨k.os.trans h.os, k.tape.trans h.tape, k.output.trans h.output, Nat.le_trans h.size k.size, fun i hi => (k.block i (Nat.lt_of_lt_of_le hi h.size) (by simp; omega)).trans (h.block i hi)⟩
/- How many stand in lists that wait. -/
def cw (ls : List (List V)) : Nat := (ls.map cnts).sum
theorem cw_push (ls : List (List V)) (l : List V) : cw (ls ++ [l]) = cw ls + cnts l := by simp [cw]
def CI (w : World) (ok : Nat → Prop) (ls : List (List V)) (lv : Value) (wr : World) : Prop :=
  ∃ g c, lv = .slice (some ⟨g, 0, none⟩) ls.length c ∧ Wait wr w.heap.size ok ls g c ∧ Below w.heap.size w wr

set_option maxRecDepth 100000 in
set_option maxHeartbeats 8000000 in
theorem count_is (w : World) (ok : Nat → Prop) (t : V) (v : Value) (h : In w ok t v) (hN : cnt t ≤ 2000000000000) :
    Calls Tryz.prog 9 #[v] w fun e w' => e = .returned (.int .i64 (cnt t)) ∧ Below w.heap.size w w' := by
  obtain ⟨o2, ho2⟩ : ∃ o2 : Nat → Prop, (fun k => ok k ∧ k < w.heap.size) = o2 := ⟨_, rfl⟩
  have H := hidI h.low
  rw [ho2] at H
  have HLO : Hid (∀ k, o2 k → k < w.heap.size) := hidI (by intro k hk; rw [← ho2] at hk; exact hk.2)
  obtain ⟨a1, a2, c1, c2, rfl⟩ := h.form
  have HN := hidI hN
  clear h ho2 hN
  have C0 : Hid (CI w o2 [t.l] (.slice (some ⟨w.heap.size + 1, 0, none⟩) 1 1) ((w.alloc (.cells #[.int .i64 t.kind, .int .i64 t.n, .string ⟨t.s.toArray⟩, .slice a1 t.keys.length c1, .slice a2 t.l.length c2] 25)).alloc (.cells #[.slice a2 t.l.length c2] 23))) := hidI (by
    have hb : Below w.heap.size w ((w.alloc (.cells #[.int .i64 t.kind, .int .i64 t.n, .string ⟨t.s.toArray⟩, .slice a1 t.keys.length c1, .slice a2 t.l.length c2] 25)).alloc (.cells #[.slice a2 t.l.length c2] 23)) := bel_trans (bel_alloc _ _) (bel_alloc _ _)
    exact ⟨_, _, rfl, wait_first ((H.out.bel hb).vals) (h2b w _ _) (by omega) (fun k hk => by have := HLO.out k hk; omega), hb⟩)
  go_enter Tryz.func9, Tryz.ntmps9
  go_wp2_with fail
  go_loopg [3, 4] (1 + cnts t.l) (fun gk nv lv wr => ∃ (ls : List (List V)) (n : Nat), nv = .int .i64 n ∧ n + cw ls = cnt t ∧ gk = mu ls ∧ mu ls ≤ 2000000000001 ∧ CI w o2 ls lv wr)
  case atStart => exact ⟨[t.l], 1, rfl, by rw [cnt_eq]; simp [cw], by simp [mu], by have := HN.out; rw [cnt_eq] at this; simp [mu]; omega, C0.out⟩
  case round =>
    obtain ⟨ls, n, rfl, hn, hgk, hM, g, c, rfl, hW, hB⟩ := hrel
    have nB : (n : Int) ≤ 2000000000000 := by have := HN.out; omega
    rcases ends ls with rfl | ⟨ms, xs, rfl⟩
    · have R : Hid ((n : Int) = (cnt t : Int) ∧ Below w.heap.size w wr) := hidI ⟨by simp [cw] at hn; omega, hB⟩
      clear hn hgk hM hW hB
      have e0 : ([] : List (List V)).length = 0 := rfl
      rw [e0]
      go_wp2_with fail
      go_ret
      exact ⟨by rw [R.out.1]; rfl, R.out.2⟩
    · obtain ⟨xv, px, vx, hW'⟩ := hW.pop
      obtain ⟨M, hgM⟩ : ∃ M, gk = M := ⟨_, rfl⟩
      rw [hgM] at hgk
      have GKM := hidI hgM
      clear hgM
      have zL := hW.cap
      have eL : (ms ++ [xs]).length = ms.length + 1 := by simp
      rw [eL] at zL ⊢
      obtain ⟨z1, z2⟩ := zL
      obtain ⟨xa, xc, rfl⟩ := vx.form
      have lx := vx.len
      have lx2 : xs.length ≤ cnts xs := cnts_len xs
      rw [cw_push] at hn
      rw [mu_push] at hgk hM
      have GM : Hid (M ≤ 2000000000001) := hidI (by omega)
      have J0 : Hid (∃ ls : List (List V), (n + xs.length) + cw ls + cnts (xs.drop 0) = cnt t + (xs.length - 0) ∧ mu ls + cnts (xs.drop 0) + 1 ≤ M ∧ ValsIn wr o2 xs (.slice xa xs.length xc) ∧ CI w o2 ls (.slice (some ⟨g, 0, none⟩) ms.length c) wr) := hidI ⟨ms, by simp only [List.drop_zero]; omega, by simp only [List.drop_zero]; omega, vx, g, c, rfl, hW', hB⟩
      have nB2 : (n : Int) + (xs.length : Int) ≤ 4000000000000 := by have := HN.out; omega
      have y1 : (0 : Int) ≤ (ms.length : Int) := by omega
      have y2 : (ms.length : Int) < ((ms.length + 1 : Nat) : Int) := by omega
      have y3 : (ms.length : Int) ≤ (c : Int) := by omega
      have y4 : (0 : Int) ≤ (xs.length : Int) := by omega
      have y5 : (0 : Int) ≤ (n : Int) := by omega
      clear hn hgk hM hW hW' vx hB eL lx2
      go_wp2_with fail
      go_loopg [4, 31] xs.length (fun gi lv i wi => ∃ k : Nat, k ≤ xs.length ∧ gi = xs.length - k ∧ i = .int .i64 k ∧ ∃ ls : List (List V), (n + xs.length) + cw ls + cnts (xs.drop k) = cnt t + (xs.length - k) ∧ mu ls + cnts (xs.drop k) + 1 ≤ M ∧ ValsIn wi o2 xs (.slice xa xs.length xc) ∧ CI w o2 ls lv wi)
      case atStart => exact ⟨0, Nat.zero_le _, rfl, rfl, J0.out⟩
      case round =>
        obtain ⟨k, hk, hgi, rfl, ls, i1, i2, i3, g', c', rfl, hW, hB⟩ := hrel
        have GI := hidI hgi
        have J : Hid ((n + xs.length) + cw ls + cnts (xs.drop k) = cnt t + (xs.length - k) ∧ mu ls + cnts (xs.drop k) + 1 ≤ M ∧ ValsIn wr o2 xs (.slice xa xs.length xc) ∧ Wait wr w.heap.size o2 ls g' c' ∧ Below w.heap.size w wr) := hidI ⟨i1, i2, i3, hW, hB⟩
        clear hgi i1 i2 hW hB
        by_cases hlt : k < xs.length
        · obtain ⟨xb, xo, p5, q5, p6, q6, rfl, x1, x2, g0, g1, g2, g3, g4, g5⟩ := i3.item hlt
          have VX := hidI g5.vals
          have w1 : (0 : Int) ≤ (k : Int) := by omega
          have w2 : (k : Int) < (xs.length : Int) := by omega
          have bx := (show BoxIs (wr.alloc (.cells #[.int .i64 xs[k].kind, .int .i64 xs[k].n, .string ⟨xs[k].s.toArray⟩, .slice p5 xs[k].keys.length q5, .slice p6 xs[k].l.length q6] 25)) wr.heap.size (.int .i64 xs[k].kind) (.int .i64 xs[k].n) (.string ⟨xs[k].s.toArray⟩) (.slice p5 xs[k].keys.length q5) (.slice p6 xs[k].l.length q6) from heap_alloc_new wr _).c
          obtain ⟨-, -, -, -, b4, -⟩ := bx
          obtain ⟨bo, hbo⟩ : ∃ bo, bo = (Obj.cells #[.int .i64 xs[k].kind, .int .i64 xs[k].n, .string ⟨xs[k].s.toArray⟩, .slice p5 xs[k].keys.length q5, .slice p6 xs[k].l.length q6] 25) := ⟨_, rfl⟩
          have HBO := hidI hbo
          clear g5 i3
          by_cases h0 : xs[k].l.length = 0
          · have d0 : ¬ (0 : Int) < (xs[k].l.length : Int) := by omega
            have FIN : Hid ((n + xs.length) + cw ls + cnts (xs.drop (k + 1)) = cnt t + (xs.length - (k + 1)) ∧ mu ls + cnts (xs.drop (k + 1)) + 1 ≤ M ∧ ValsIn (wr.alloc bo) o2 xs (.slice (some ⟨xb, xo, none⟩) xs.length xc) ∧ CI w o2 ls (.slice (some ⟨g', 0, none⟩) ls.length c') (wr.alloc bo)) := hidI (by
              obtain ⟨j1, j2, j3, j4, j5⟩ := J.out
              have e1 : xs[k].l = [] := List.eq_nil_of_length_eq_zero h0
              have e2 := cnt_eq xs[k]
              have e4 := cnts_drop hlt
              rw [e1, cnts_nil] at e2
              exact ⟨by omega, by omega, j3.bel (bel_alloc _ _), g', c', rfl, j4.bel (bel_alloc _ _), bel_trans j5 (bel_alloc _ _)⟩)
            clear h0 hbo
            go_wp2_with fail
            go_roundg (xs.length - (k + 1))
            case measure => rw [GI.out]; omega
            case rel =>
              obtain ⟨f1, f2, f3, f4⟩ := FIN.out
              rw [HBO.out] at f3 f4
              exact ⟨k + 1, hlt, rfl, by go_num, ls, f1, f2, f3, f4⟩
          · have d0 : (0 : Int) < (xs[k].l.length : Int) := by omega
            have nls : ls.length ≤ 5000000000000 := by have := mu_len ls; have := J.out.2.1; have := GM.out; omega
            have hbl : Below wr.heap.size wr ((wr.alloc bo).alloc (.cells #[.slice p6 xs[k].l.length q6] 23)) := bel_trans (bel_alloc _ _) (bel_alloc _ _)
            obtain ⟨g7, c7, w7, hR, hW7, hg7, hat⟩ := run_push (w := (wr.alloc bo).alloc (.cells #[.slice p6 xs[k].l.length q6] 23)) (J.out.2.2.2.1.bel hbl) (h2b wr _ _) (VX.out.bel hbl) nls (fun k hk => by have := HLO.out k hk; have := J.out.2.2.2.2.size; have := hbl.size; omega) 41
            have FIN2 : Hid ((n + xs.length) + cw (ls ++ [xs[k].l]) + cnts (xs.drop (k + 1)) = cnt t + (xs.length - (k + 1)) ∧ mu (ls ++ [xs[k].l]) + cnts (xs.drop (k + 1)) + 1 ≤ M ∧ ValsIn w7 o2 xs (.slice (some ⟨xb, xo, none⟩) xs.length xc) ∧ CI w o2 (ls ++ [xs[k].l]) (.slice (some ⟨g7, 0, none⟩) (ls.length + 1) c7) w7) := hidI (by
              obtain ⟨j1, j2, j3, j4, j5⟩ := J.out
              have e2 := cnt_eq xs[k]
              have e4 := cnts_drop hlt
              have hne : ∀ k, o2 k → k ≠ g' := fun k hk => by have := HLO.out k hk; have := j4.lt; omega
              refine ⟨by rw [cw_push]; omega, by rw [mu_push]; omega, (j3.bel hbl).grown hg7 hne, g7, c7, by simp, hW7, ?_⟩
              exact bel_push j5 hbl hg7 j4.lt.1)
            clear h0 hW7 hg7 hat hbl
            subst hbo
            have HRR := hidI hR
            clear hR
            go_wp2_with (at_builtin; go_must (refine Lib.wpList_append_run _ rfl _ _ _ _ rfl (.slice (some ⟨g', 0, none⟩) ls.length c') (.slice (some ⟨wr.heap.size + 1, 0, none⟩) 1 1) rfl rfl _ _ (by exact HRR.out) ?_); refine Hid.out ?_)
            refine hidI ?_
            go_wp2_with fail
            go_roundg (xs.length - (k + 1))
            case measure => rw [GI.out]; omega
            case rel => exact ⟨k + 1, hlt, rfl, by go_num, ls ++ [xs[k].l], FIN2.out⟩
        · have FIN : Hid ((∃ (ls2 : List (List V)) (n2 : Nat), (Value.int .i64 ((n : Int) + (xs.length : Int))) = .int .i64 n2 ∧ n2 + cw ls2 = cnt t ∧ mu ls = mu ls2 ∧ mu ls2 ≤ 2000000000001 ∧ CI w o2 ls2 (.slice (some ⟨g', 0, none⟩) ls.length c') wr) ∧ mu ls < M) := hidI (by
            obtain ⟨j1, j2, j3, j4, j5⟩ := J.out
            have l1 : xs.drop k = [] := List.drop_eq_nil_of_le (by omega)
            rw [l1, cnts_nil] at j1 j2
            have := GM.out
            exact ⟨⟨ls, n + xs.length, by simp, by omega, rfl, by omega, g', c', rfl, j4, j5⟩, by omega⟩)
          have d1 : ¬ (k : Int) < (xs.length : Int) := by omega
          clear i3 J
          go_wp2_with fail
          go_roundg (mu ls)
          case measure => rw [GKM.out]; exact FIN.out.2
          case rel => exact FIN.out.1
end Go.Proofs.YtkboplcffailoaaGreatDoor
