/- What alikeButItems of package json does. -/
import Derived.Test.YtfbddgpekbhpfacGreatDoorXa
import Derived.Test.YtfbddgpekbhpfacGreatDoorShq
set_option linter.unusedSimpArgs false
set_option linter.unusedVariables false
namespace Go.Proofs.YtfbddgpekbhpfacGreatDoor
open Go.RowKit

theorem equalS_at (w : World) (ok ok' : Nat → Prop) (xs ys : List (List UInt8)) (v1 v2 : Value) (h1 : StrsAre w ok xs v1) (h2 : StrsAre w ok' ys v2) :
    Calls Tryz.prog 59 #[v1, v2] w fun e w' => e = .returned (.bool (decide (xs = ys))) ∧ Below w.heap.size w w' := by
  have hm := h2.1
  unfold maxLen at hm
  have hm1 := h1.1
  unfold maxLen at hm1
  obtain ⟨a2, c2, e2⟩ := h2.form
  rcases h1.2 with ⟨rfl, a, rfl⟩ | ⟨b, off, c, rfl, g1, g2, g3⟩
  · rw [e2]
    refine (Tryz.slices_Equal_string_empty a a2 0 ys.length c2 w hm).mono ?_
    rintro e w' ⟨rfl, rfl⟩
    refine ⟨?_, Below.refl _ _⟩
    congr 2
    cases ys <;> simp
  · by_cases hl : xs.length = ys.length
    · rcases h2.2 with ⟨rfl, a, e⟩ | ⟨b2, off2, c3, e, f1, f2, f3⟩
      · have hx : xs = [] := List.eq_nil_of_length_eq_zero (by simpa using hl)
        subst hx
        rw [e2]
        refine (Tryz.slices_Equal_string_empty _ a2 c 0 c2 w (by omega)).mono ?_
        rintro e w' ⟨rfl, rfl⟩
        exact ⟨by simp, Below.refl _ _⟩
      · subst e
        refine (Tryz.slices_Equal_string b off xs.length c b2 off2 ys.length c3 (xs.map fun l => (⟨l.toArray⟩ : ByteArray)) (ys.map fun l => (⟨l.toArray⟩ : ByteArray)) w (by simp) (by simp) hm1 hm ?_ ?_).mono ?_
        · intro j hj
          have hj' : j < xs.length := by simpa using hj
          rw [(g3 j xs[j] (List.getElem?_eq_getElem hj')).2.2]
          simp [str, hj']
        · intro j hj
          have hj' : j < ys.length := by simpa using hj
          rw [(f3 j ys[j] (List.getElem?_eq_getElem hj')).2.2]
          simp [str, hj']
        · rintro e w' ⟨rfl, q, rfl⟩
          refine ⟨?_, ⟨rfl, rfl, rfl, Nat.le_refl _, fun _ _ => rfl⟩⟩
          congr 2
          rw [List.take_of_length_le (by simp), List.take_of_length_le (by simp)]
          have inj : ∀ (a b : List (List UInt8)), (a.map fun l => (⟨l.toArray⟩ : ByteArray)) = (b.map fun l => (⟨l.toArray⟩ : ByteArray)) ↔ a = b := by
            intro a
            induction a with
            | nil => intro b; cases b <;> simp
            | cons x a ih =>
              intro b
              cases b with
              | nil => simp
              | cons y b => simp [ih b]
          exact decide_eq_decide.2 (inj xs ys)
    · rw [e2]
      refine (Tryz.slices_Equal_string_lens _ a2 xs.length c ys.length c2 w hl).mono ?_
      rintro e w' ⟨rfl, rfl⟩
      refine ⟨?_, Below.refl _ _⟩
      congr 2
      have : ¬ xs = ys := fun e => hl (by rw [e])
      simp [this]
def aliked (a b : V) : Bool := decide (a.kind = b.kind) && decide (a.n = b.n) && decide (a.s = b.s) && decide (a.keys = b.keys) && decide (a.l.length = b.l.length)
set_option maxRecDepth 100000 in
set_option maxHeartbeats 4000000 in
theorem alike_is (w : World) (ok ok' : Nat → Prop) (a b : V) (va vb : Value) (ha : In w ok a va) (hb : In w ok' b vb) :
    Calls Tryz.prog 40 #[va, vb] w fun e w' => e = .returned (.bool (aliked a b)) ∧ Below w.heap.size w w' := by
  obtain ⟨l1, l2, l3⟩ := ha.lens
  obtain ⟨m1, m2, m3⟩ := hb.lens
  obtain ⟨d1, ha⟩ := ha.at
  obtain ⟨d2, hb⟩ := hb.at
  obtain ⟨ks, ls, rfl, -, -, -, h4, h5⟩ := ha
  obtain ⟨ks', ls', rfl, -, -, -, g4, g5⟩ := hb
  have H4 := hidI h4
  have G4 := hidI g4
  obtain ⟨a1, c1, rfl⟩ := h4.form
  obtain ⟨a2, c2, rfl⟩ := h5.form
  obtain ⟨a3, c3, rfl⟩ := g4.form
  obtain ⟨a4, c4, rfl⟩ := g5.form
  clear h4 h5 g4 g5
  unfold str
  have B2 : Hid (∀ o1 o2, Below w.heap.size w ((w.alloc o1).alloc o2)) := fun o1 o2 => bel_trans (bel_alloc _ _) (bel_alloc _ _)
  by_cases e1 : a.kind = b.kind
  · have q1 : (a.kind == b.kind) = true := by rw [beq_iff_eq]; exact e1
    by_cases e2 : a.n = b.n
    · have q2 : (a.n == b.n) = true := by rw [beq_iff_eq]; exact e2
      by_cases e3 : a.s = b.s
      · have q3 : (a.s == b.s) = true := by rw [beq_iff_eq]; exact e3
        have HE : Hid (aliked a b = (decide (a.keys = b.keys) && decide (a.l.length = b.l.length))) := hidI (by simp [aliked, e1, e2, e3])
        clear e1 e2 e3
        cases hk : decide (a.keys = b.keys) with
        | true =>
          by_cases hl : a.l.length = b.l.length
          · have q4 : ((a.l.length : Int) == (b.l.length : Int)) = true := by rw [hl]; simp
            have HR : Hid (aliked a b = true) := hidI (by rw [HE.out, hk]; simp [hl])
            have HK := hidI hk
            clear hk hl
            go_enter Tryz.func40, Tryz.ntmps40
            go_wp2_with fail
            refine (equalS_at _ _ _ a.keys b.keys _ _ (by exact H4.out.bel (B2.out _ _)) (by exact G4.out.bel (B2.out _ _))).mono ?_
            rintro e w1 ⟨rfl, hb1⟩
            rw [HK.out]
            have p4 := (box_bel hb1 (h2a w _ _)).c.2.2.2.2.1
            have r4 := (box_bel hb1 (h2b w _ _)).c.2.2.2.2.1
            have HB := hidI (bel_trans (B2.out _ _) hb1)
            clear hb1
            go_wp2_with fail
            go_ret
            exact ⟨by rw [HR.out]; rfl, HB.out⟩
          · have q4 : ((a.l.length : Int) == (b.l.length : Int)) = false := by rw [beq_eq_false_iff_ne]; omega
            have HR : Hid (aliked a b = false) := hidI (by rw [HE.out, hk]; simp [hl])
            have HK := hidI hk
            clear hk hl
            go_enter Tryz.func40, Tryz.ntmps40
            go_wp2_with fail
            refine (equalS_at _ _ _ a.keys b.keys _ _ (by exact H4.out.bel (B2.out _ _)) (by exact G4.out.bel (B2.out _ _))).mono ?_
            rintro e w1 ⟨rfl, hb1⟩
            rw [HK.out]
            have p4 := (box_bel hb1 (h2a w _ _)).c.2.2.2.2.1
            have r4 := (box_bel hb1 (h2b w _ _)).c.2.2.2.2.1
            have HB := hidI (bel_trans (B2.out _ _) hb1)
            clear hb1
            go_wp2_with fail
            go_ret
            exact ⟨by rw [HR.out]; rfl, HB.out⟩
        | false =>
          have HR : Hid (aliked a b = false) := hidI (by rw [HE.out, hk]; rfl)
          have HK := hidI hk
          clear hk
          go_enter Tryz.func40, Tryz.ntmps40
          go_wp2_with fail
          refine (equalS_at _ _ _ a.keys b.keys _ _ (by exact H4.out.bel (B2.out _ _)) (by exact G4.out.bel (B2.out _ _))).mono ?_
          rintro e w1 ⟨rfl, hb1⟩
          rw [HK.out]
          have HB := hidI (bel_trans (B2.out _ _) hb1)
          clear hb1
          go_wp2_with fail
          go_ret
          exact ⟨by rw [HR.out]; rfl, HB.out⟩
      · have q3 : (a.s == b.s) = false := by rw [beq_eq_false_iff_ne]; exact e3
        have HR : Hid (aliked a b = false) := hidI (by simp [aliked, e3])
        clear e1 e2 e3
        go_enter Tryz.func40, Tryz.ntmps40
        go_wp2_with fail
        go_ret
        exact ⟨by rw [HR.out]; rfl, B2.out _ _⟩
    · have q2 : (a.n == b.n) = false := by rw [beq_eq_false_iff_ne]; exact e2
      have HR : Hid (aliked a b = false) := hidI (by simp [aliked, e2])
      clear e1 e2
      go_enter Tryz.func40, Tryz.ntmps40
      go_wp2_with fail
      go_ret
      exact ⟨by rw [HR.out]; rfl, B2.out _ _⟩
  · have q1 : (a.kind == b.kind) = false := by rw [beq_eq_false_iff_ne]; exact e1
    have HR : Hid (aliked a b = false) := hidI (by simp [aliked, e1])
    clear e1
    go_enter Tryz.func40, Tryz.ntmps40
    go_wp2_with fail
    go_ret
    exact ⟨by rw [HR.out]; rfl, B2.out _ _⟩
end Go.Proofs.YtfbddgpekbhpfacGreatDoor
