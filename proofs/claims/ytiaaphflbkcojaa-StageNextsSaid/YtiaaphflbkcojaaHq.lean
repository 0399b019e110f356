/- What NextStatus of package stairwellref does. -/
import Derived.Test.YtiaaphflbkcojaaHp
set_option linter.unusedSimpArgs false
set_option linter.unusedVariables false
namespace Go.Proofs.Ytiaaphflbkcojaa
open Go.RowKit

theorem step_neg {x : Stp} (h : stepOk x = true) : (x.w < 0 → x.w = -1 ∧ 0 ≤ x.p) ∧ (¬ x.w < 0 → x.w ≠ -1) := by
  constructor
  · intro hw
    rw [stepOk] at h
    split at h
    · rename_i e; exact ⟨e, (isT_iff.1 h).1⟩
    · simp [isW] at h; omega
  · intro hw e; omega
theorem rnext_way (g : List UInt8) (l : List Stp) (v : Value) (now : Int) (hg : g.length ≤ 9223372036854775807) (hs : specOk g l = true) (hT : isT now = true) (d : Nat) : ∀ (w : World) (s : Sta) (order : Int), StpsAre w l v → Way s → s.c = g → (order = 0 ∨ order = 1) → l.length - s.st.toNat ≤ d →
    Calls Try.prog 9 #[.agg #[.string ⟨g.toArray⟩, v], staV s, .int .i64 now, .int .i64 order] w fun e w' => e = .returned (.tuple #[staV (rollF now (decide (order = 1)) (l.drop s.st.toNat) s), .int .i64 0]) ∧ Below w.heap.size w w' := by
  obtain ⟨⟨g1, g2, g3⟩, g4⟩ := specOk_iff.1 hs
  obtain ⟨t1, t2⟩ := isT_iff.1 hT
  have last : ∀ (w : World) (s : Sta) (order : Int), StpsAre w l v → Way s → s.c = g → (order = 0 ∨ order = 1) → (l.length : Int) ≤ s.st →
      Calls Try.prog 9 #[.agg #[.string ⟨g.toArray⟩, v], staV s, .int .i64 now, .int .i64 order] w fun e w' => e = .returned (.tuple #[staV (rollF now (decide (order = 1)) (l.drop s.st.toNat) s), .int .i64 0]) ∧ Below w.heap.size w w' := by
    intro w s order h hw hc ho hl
    obtain ⟨k1, k2, k3, k4, k5, k6, k7, k8⟩ := id hw
    rw [List.drop_eq_nil_of_le (by omega), rollF]
    have a1 : g ≠ s.a := fun e => k3 (by rw [hc]; exact e.symm)
    have p1 : s.ph ≠ 1 := by omega
    have p4 : s.ph ≠ 4 := by omega
    have o2 : order ≠ 2 := by omega
    have o3 : order ≠ 3 := by omega
    exact rnext_last w g l v s now order h hg hs hw.ok t1 t2 (by omega) (by omega) (by simp [a1]) (by simp [a1]) (by simp [hc]) (by simp [hc]) (by simp [p1]) (by simp [p1]) (by simp [p4]) (by simp [p4]) (by simp [o2]) (by simp [o2]) (by simp [o3]) (by simp [o3]) hl
  induction d with
  | zero =>
    intro w s order h hw hc ho hd
    exact last w s order h hw hc ho (by have := hw.2.2.2.1; omega)
  | succ d ih =>
    intro w s order h hw hc ho hd
    by_cases hl : (l.length : Int) ≤ s.st
    · exact last w s order h hw hc ho hl
    obtain ⟨k1, k2, k3, k4, k5, k6, k7, k8⟩ := id hw
    have hk : s.st.toNat < l.length := by omega
    obtain ⟨x, hx⟩ : ∃ x, l[s.st.toNat]? = some x := ⟨_, List.getElem?_eq_getElem hk⟩
    have a1 : g ≠ s.a := fun e => k3 (by rw [hc]; exact e.symm)
    have p1 : s.ph ≠ 1 := by omega
    have p4 : s.ph ≠ 4 := by omega
    have o2 : order ≠ 2 := by omega
    have o3 : order ≠ 3 := by omega
    have xok : stepOk x = true := g4 x (List.mem_of_getElem? hx)
    obtain ⟨n1, n2⟩ := step_neg xok
    have h8 : s.st < 8 := by omega
    rw [drop_at hx, rollF]
    by_cases hn : x.w < 0
    · obtain ⟨xw, xp⟩ := n1 hn
      rw [if_neg (fun e => e xw)]
      by_cases q2 : s.ph = 2
      · have q3 : s.ph ≠ 3 := by omega
        rw [if_pos q3]
        exact rnext_wait w g l v s now order h hg hs hw.ok t1 t2 (by omega) (by omega) (by simp [a1]) (by simp [a1]) (by simp [hc]) (by simp [hc]) (by simp [p1]) (by simp [p1]) (by simp [p4]) (by simp [p4]) (by simp [o2]) (by simp [o2]) (by simp [o3]) (by simp [o3]) x k4 (by omega) hx hn (by simp [q2]) (by simp [q2])
      · have q3 : s.ph = 3 := by omega
        have hsi : 0 ≤ s.si ∧ s.si ≤ 1099511627776 := by omega
        rw [if_neg (fun e => e q3)]
        have REC : ∀ W : World, Below w.heap.size w W → Calls Try.prog 9 #[.agg #[.string ⟨g.toArray⟩, v], .agg #[.string ⟨(onS s).a.toArray⟩, .string ⟨(onS s).c.toArray⟩, .int .i64 (onS s).ph, .int .i64 (onS s).st, .int .i64 (onS s).we, .int .i64 (onS s).si], .int .i64 now, .int .i64 0] W fun e w' => e = .returned (.tuple #[staV (rollF now (decide (order = 1)) (l.drop (s.st.toNat + 1)) (onS s)), .int .i64 0]) ∧ Below W.heap.size W w' := by
          intro W hb
          have k := ih W (onS s) 0 (h.bel hb) (hw.on h8) hc (.inl rfl) (by simp only [onS]; omega)
          rw [show (onS s).st.toNat = s.st.toNat + 1 by simp only [onS]; omega, roll_any now _ (onS s) _ (decide (order = 1)) rfl] at k
          exact k
        by_cases o1 : order = 1
        · rw [if_neg (by simp [o1])]
          exact rnext_resume w g l v s now order h hg hs hw.ok t1 t2 (by omega) (by omega) (by simp [a1]) (by simp [a1]) (by simp [hc]) (by simp [hc]) (by simp [p1]) (by simp [p1]) (by simp [p4]) (by simp [p4]) (by simp [o2]) (by simp [o2]) (by simp [o3]) (by simp [o3]) x k4 (by omega) hx hn (by simp [q2]) (by simp [q2]) (by simp [o1]) (by simp [o1]) _ REC
        · by_cases q11 : x.p = 0
          · rw [if_pos ⟨by simp [o1], .inl q11⟩]
            exact rnext_pause0 w g l v s now order h hg hs hw.ok t1 t2 (by omega) (by omega) (by simp [a1]) (by simp [a1]) (by simp [hc]) (by simp [hc]) (by simp [p1]) (by simp [p1]) (by simp [p4]) (by simp [p4]) (by simp [o2]) (by simp [o2]) (by simp [o3]) (by simp [o3]) x k4 (by omega) hx hn (by simp [q2]) (by simp [q2]) (by simp [o1]) (by simp [o1]) (by simp [q11]) (by simp [q11])
          · by_cases q12 : now - s.si < x.p
            · rw [if_pos ⟨by simp [o1], .inr q12⟩]
              exact rnext_pause1 w g l v s now order h hg hs hw.ok t1 t2 (by omega) (by omega) (by simp [a1]) (by simp [a1]) (by simp [hc]) (by simp [hc]) (by simp [p1]) (by simp [p1]) (by simp [p4]) (by simp [p4]) (by simp [o2]) (by simp [o2]) (by simp [o3]) (by simp [o3]) x k4 (by omega) hx hn (by simp [q2]) (by simp [q2]) (by simp [o1]) (by simp [o1]) (by simp [q11]) (by simp [q11]) hsi.1 hsi.2 q12
            · rw [if_neg (fun e => e.2.elim q11 q12)]
              exact rnext_over w g l v s now order h hg hs hw.ok t1 t2 (by omega) (by omega) (by simp [a1]) (by simp [a1]) (by simp [hc]) (by simp [hc]) (by simp [p1]) (by simp [p1]) (by simp [p4]) (by simp [p4]) (by simp [o2]) (by simp [o2]) (by simp [o3]) (by simp [o3]) x k4 (by omega) hx hn (by simp [q2]) (by simp [q2]) (by simp [o1]) (by simp [o1]) (by simp [q11]) (by simp [q11]) hsi.1 hsi.2 q12 (by omega) _ REC
    · have xw := n2 hn
      rw [if_pos xw]
      have REC : ∀ W : World, Below w.heap.size w W → Calls Try.prog 9 #[.agg #[.string ⟨g.toArray⟩, v], staV (onS (toS s x.w)), .int .i64 now, .int .i64 order] W fun e w' => e = .returned (.tuple #[staV (rollF now (decide (order = 1)) (l.drop (s.st.toNat + 1)) (onS (toS s x.w))), .int .i64 0]) ∧ Below W.heap.size W w' := by
        intro W hb
        have k := ih W (onS (toS s x.w)) order (h.bel hb) ((hw.to (step_w xok xw)).on h8) hc ho (by simp only [onS, toS]; omega)
        rw [show (onS (toS s x.w)).st.toNat = s.st.toNat + 1 by simp only [onS, toS]; omega] at k
        exact k
      exact rnext_weight w g l v s now order h hg hs hw.ok t1 t2 (by omega) (by omega) (by simp [a1]) (by simp [a1]) (by simp [hc]) (by simp [hc]) (by simp [p1]) (by simp [p1]) (by simp [p4]) (by simp [p4]) (by simp [o2]) (by simp [o2]) (by simp [o3]) (by simp [o3]) x k4 (by omega) hx hn _ REC

theorem rnext_at (w : World) (g : List UInt8) (l : List Stp) (v : Value) (s : Sta) (now order : Int) (h : StpsAre w l v) (hg : g.length ≤ 9223372036854775807) :
    Calls Try.prog 9 #[.agg #[.string ⟨g.toArray⟩, v], staV s, .int .i64 now, .int .i64 order] w fun e w' => e = .returned (.tuple #[staV (nextF g l s now order).1, .int .i64 (nextF g l s now order).2]) ∧ Below w.heap.size w w' := by
  rw [nextF]
  cases hs : specOk g l with
  | false => rw [if_pos (by simp)]; exact rnext_bad1 w g l v s now order h hg hs
  | true =>
    cases ht : staOk s with
    | false => rw [if_pos (by simp)]; exact rnext_bad2 w g l v s now order h hg hs ht
    | true =>
      rw [if_neg (by simp)]
      by_cases n1 : now < 0
      · rw [if_pos (by rw [isT, decide_eq_false (by omega)])]; exact rnext_bad3 w g l v s now order h hg hs ht n1
      by_cases n2 : 1099511627776 < now
      · rw [if_pos (by rw [isT, decide_eq_false (by omega)])]; exact rnext_bad4 w g l v s now order h hg hs ht (by omega) n2
      have t1 : 0 ≤ now := by omega
      have t2 : now ≤ 1099511627776 := by omega
      have hT : isT now = true := isT_iff.2 ⟨t1, t2⟩
      rw [if_neg (by simp [hT])]
      by_cases o1 : order < 0
      · rw [if_pos (.inl o1)]; exact rnext_bad5 w g l v s now order h hg hs ht t1 t2 o1
      by_cases o2 : 3 < order
      · rw [if_pos (.inr o2)]; exact rnext_bad6 w g l v s now order h hg hs ht t1 t2 (by omega) o2
      rw [if_neg (by omega)]
      have k1 : 0 ≤ order := by omega
      have k2 : order ≤ 3 := by omega
      obtain ⟨⟨g1, g2, g3⟩, g4⟩ := specOk_iff.1 hs
      by_cases hc : g = s.c
      · rw [if_neg (fun h => h.1 hc), comesS, if_pos hc, nextS]
        rcases ok_cases ht with ⟨e, _⟩ | ⟨e, a1, a2, a3⟩ | hw
        · have p1 : s.ph = 1 := by rw [e]; rfl
          have ha : g = s.a := by rw [hc, e]; rfl
          rw [if_pos (.inl p1)]
          exact rnext_still1 w g l v s now order h hg hs ht t1 t2 k1 k2 (by simp [ha]) (by simp [ha]) (by simp [hc]) (by simp [hc]) (by simp [p1]) (by simp [p1])
        · have p4 : s.ph = 4 := by rw [e]; rfl
          have ha : g ≠ s.a := fun e => a3 (by rw [← hc]; exact e.symm)
          rw [if_pos (.inr p4)]
          exact rnext_still4 w g l v s now order h hg hs ht t1 t2 k1 k2 (by simp [ha]) (by simp [ha]) (by simp [hc]) (by simp [hc]) (by simp [p4]) (by simp [p4]) (by simp [p4]) (by simp [p4])
        · obtain ⟨j1, j2, j3, j4, j5, j6, j7, j8⟩ := id hw
          have p1 : s.ph ≠ 1 := by omega
          have p4 : s.ph ≠ 4 := by omega
          have ha : g ≠ s.a := fun e => j3 (by rw [← hc]; exact e.symm)
          rw [if_neg (by omega)]
          by_cases q2 : order = 2
          · rw [if_pos q2]
            exact rnext_prom w g l v s now order h hg hs ht t1 t2 k1 k2 (by simp [ha]) (by simp [ha]) (by simp [hc]) (by simp [hc]) (by simp [p1]) (by simp [p1]) (by simp [p4]) (by simp [p4]) (by simp [q2]) (by simp [q2])
          rw [if_neg q2]
          by_cases q3 : order = 3
          · rw [if_pos q3]
            exact rnext_abort w g l v s now order h hg hs ht t1 t2 k1 k2 (by simp [ha]) (by simp [ha]) (by simp [hc]) (by simp [hc]) (by simp [p1]) (by simp [p1]) (by simp [p4]) (by simp [p4]) (by simp [q2]) (by simp [q2]) (by simp [q3]) (by simp [q3])
          rw [if_neg q3]
          exact rnext_way g l v now hg hs hT _ w s order h hw hc.symm (by omega) (Nat.le_refl _)
      · by_cases ha : g = s.a
        · rw [if_pos ⟨hc, ha⟩]
          exact rnext_back w g l v s now order h hg hs ht t1 t2 k1 k2 (by simp [ha]) (by simp [ha]) (by simp [hc]) (by simp [hc])
        · have hsa : s.a ≠ [] := by
            rcases ok_cases ht with ⟨_, e⟩ | ⟨_, e, _⟩ | e
            · exact e
            · exact e
            · exact e.1
          have hw : Way (begunS s.a g) := begun_way hsa g1 (fun e => ha e.symm)
          rw [if_neg (fun e => ha e.2), comesS, if_neg hc, nextS, if_neg (by simp [begunS])]
          by_cases q2 : order = 2
          · rw [if_pos q2]
            exact rbegun_prom w g l v s now order h hg hs ht t1 t2 k1 k2 (by simp [ha]) (by simp [ha]) (by simp [hc]) (by simp [hc]) (by simp [q2]) (by simp [q2])
          rw [if_neg q2]
          by_cases q3 : order = 3
          · rw [if_pos q3]
            exact rbegun_abort w g l v s now order h hg hs ht t1 t2 k1 k2 (by simp [ha]) (by simp [ha]) (by simp [hc]) (by simp [hc]) (by simp [q2]) (by simp [q2]) (by simp [q3]) (by simp [q3])
          rw [if_neg q3]
          show Calls _ _ _ _ fun e w' => e = .returned (.tuple #[staV (rollF now (decide (order = 1)) (l.drop 0) (begunS s.a g)), .int .i64 0]) ∧ Below w.heap.size w w'
          rw [List.drop_zero]
          match l, h, hs, g3, g4 with
          | [], h, hs, g3, g4 =>
            exact rbegun_last w g [] v s now order h hg hs ht t1 t2 k1 k2 (by simp [ha]) (by simp [ha]) (by simp [hc]) (by simp [hc]) (by simp [q2]) (by simp [q2]) (by simp [q3]) (by simp [q3]) rfl
          | x :: m, h, hs, g3, g4 =>
            have xok : stepOk x = true := g4 x (by simp)
            obtain ⟨n1, n2⟩ := step_neg xok
            rw [rollF]
            by_cases hn : x.w < 0
            · obtain ⟨xw, xp⟩ := n1 hn
              rw [if_neg (fun e => e xw), if_pos (by simp [begunS])]
              exact rbegun_wait w g (x :: m) v s now order h hg hs ht t1 t2 k1 k2 (by simp [ha]) (by simp [ha]) (by simp [hc]) (by simp [hc]) (by simp [q2]) (by simp [q2]) (by simp [q3]) (by simp [q3]) x (by simp) (by simp) hn
            · have xw := n2 hn
              rw [if_pos xw]
              have REC : ∀ W : World, Below w.heap.size w W → Calls Try.prog 9 #[.agg #[.string ⟨g.toArray⟩, v], staV (onS (toS (begunS s.a g) x.w)), .int .i64 now, .int .i64 order] W fun e w' => e = .returned (.tuple #[staV (rollF now (decide (order = 1)) m (onS (toS (begunS s.a g) x.w))), .int .i64 0]) ∧ Below W.heap.size W w' := by
                intro W hb
                exact rnext_way g (x :: m) v now hg hs hT _ W (onS (toS (begunS s.a g) x.w)) order (h.bel hb) ((hw.to (step_w xok xw)).on (by simp [begunS, toS])) rfl (by omega) (Nat.le_refl _)
              exact rbegun_weight w g (x :: m) v s now order h hg hs ht t1 t2 k1 k2 (by simp [ha]) (by simp [ha]) (by simp [hc]) (by simp [hc]) (by simp [q2]) (by simp [q2]) (by simp [q3]) (by simp [q3]) x (by simp) (by simp) hn _ REC
end Go.Proofs.Ytiaaphflbkcojaa
