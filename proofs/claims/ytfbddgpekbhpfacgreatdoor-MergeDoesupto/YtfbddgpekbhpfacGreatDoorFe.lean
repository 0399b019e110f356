/- What IsClean of package stairwellref answers: what Clean answers. -/
import Derived.Test.YtfbddgpekbhpfacGreatDoorMd
import Derived.Test.YtfbddgpekbhpfacGreatDoorMb
set_option linter.unusedSimpArgs false
set_option linter.unusedVariables false
namespace Go.Proofs.YtfbddgpekbhpfacGreatDoor
open Go.RowKit

theorem clns_append (xs ys : List V) : clns (xs ++ ys) = (clns xs && clns ys) := by simp [clns]
theorem clns_snoc {xs : List V} {k : Nat} (h : k < xs.length) : clns (xs.take (k + 1)) = (clns (xs.take k) && (!decide (xs[k].kind = 0) && cln xs[k])) := by
  rw [List.take_add_one, List.getElem?_eq_getElem h, clns_append]
  simp [clns]
def ICC (d : Nat) : Prop := ∀ (w : World) (ok : Nat → Prop) (t : V) (v : Value), VIs w ok d t v →
    Calls Tryz.prog 9 #[v] w fun e w' => e = .returned (.bool (cln t)) ∧ Below w.heap.size w w'
set_option maxRecDepth 100000 in
set_option maxHeartbeats 8000000 in
theorem isClean_succ (d : Nat) (ih : ICC d) : ICC (d + 1) := by
  intro w ok t v h
  have IH := hidI ih
  obtain ⟨a1, a2, c1, c2, rfl⟩ := h.shape
  have VV : Hid (ValsAre w ok (VIs w ok d) t.l (.slice a2 t.l.length c2)) := hidI (by
    obtain ⟨ks, ls, e, h1, h2, h3, h4, h5⟩ := h
    simp only [Value.agg.injEq, Array.mk.injEq, List.cons.injEq, and_true] at e
    obtain ⟨-, -, -, rfl, rfl⟩ := e
    exact h5)
  have ll : t.l.length ≤ 9223372036854775807 := VV.out.1
  clear h ih
  by_cases hk : t.kind = 5
  · have e0 : (t.kind == 5) = true := by rw [hk]; rfl
    have HC : Hid (cln t = clns t.l) := hidI (by rw [cln_eq]; simp [hk])
    clear hk
    go_enter Tryz.func9, Tryz.ntmps9
    go_wp2_with fail
    go_loopg [3, 12] t.l.length (fun gk c i wr => ∃ (k : Nat) (b : Bool), k ≤ t.l.length ∧ gk = t.l.length - k ∧ i = .int .i64 k ∧ c = .bool b ∧ b = clns (t.l.take k) ∧ BoxIs wr w.heap.size (.int .i64 t.kind) (.int .i64 t.n) (.string ⟨t.s.toArray⟩) (.slice a1 t.keys.length c1) (.slice a2 t.l.length c2) ∧ Below w.heap.size w wr)
    case atStart => exact ⟨0, true, Nat.zero_le _, rfl, rfl, rfl, rfl, heap_alloc_new w _, bel_alloc _ _⟩
    case round =>
      obtain ⟨k, b, hk, hgk, rfl, rfl, hb, hbx, hbl⟩ := hrel
      have GK := hidI hgk
      have HB := hidI hb
      have I := hidI (And.intro hbx hbl)
      clear hgk hb hbx hbl
      by_cases hlt : k < t.l.length
      · obtain ⟨xb, xo, rfl, j1, j2, a5, c5, a6, c6, p0, p1, p2, p3, p4, p5⟩ := vals_at VV.out hlt
        unfold maxLen at j2
        replace p0 := cell_bel I.out.2 p0
        replace p1 := cell_bel I.out.2 p1
        replace p2 := cell_bel I.out.2 p2
        replace p3 := cell_bel I.out.2 p3
        replace p4 := cell_bel I.out.2 p4
        have P5 := hidI (p5.bel I.out.2)
        have w1 : (0 : Int) ≤ (k : Int) := by omega
        have w2 : (k : Int) < (t.l.length : Int) := by omega
        have K : Hid (∀ o, BoxIs (wr.alloc o) w.heap.size (.int .i64 t.kind) (.int .i64 t.n) (.string ⟨t.s.toArray⟩) (.slice a1 t.keys.length c1) (.slice (some ⟨xb, xo, none⟩) t.l.length c2) ∧ Below w.heap.size w (wr.alloc o)) := hidI fun o => ⟨box_bel (bel_alloc wr o) I.out.1, bel_trans I.out.2 (bel_alloc wr o)⟩
        have SN := hidI (clns_snoc hlt)
        clear p5
        cases b with
        | false =>
          have FB : Hid (false = clns (t.l.take (k + 1))) := hidI (by rw [SN.out, ← HB.out]; rfl)
          go_wp2_with fail
          go_roundg (t.l.length - (k + 1))
          case measure => rw [GK.out]; omega
          case rel => exact ⟨k + 1, false, hlt, rfl, by go_num, rfl, FB.out, (K.out _).1, (K.out _).2⟩
        | true =>
          by_cases hz : t.l[k].kind = 0
          · have e3 : (t.l[k].kind != 0) = false := by rw [hz]; rfl
            have FB : Hid (false = clns (t.l.take (k + 1))) := hidI (by rw [SN.out]; simp [hz])
            clear hz
            go_wp2_with fail
            go_roundg (t.l.length - (k + 1))
            case measure => rw [GK.out]; omega
            case rel => exact ⟨k + 1, false, hlt, rfl, by go_num, rfl, FB.out, (K.out _).1, (K.out _).2⟩
          · have e3 : (t.l[k].kind != 0) = true := by rw [bne_iff_ne]; exact hz
            have FB : Hid (cln t.l[k] = clns (t.l.take (k + 1))) := hidI (by rw [SN.out, ← HB.out]; simp [hz])
            clear hz
            go_wp2_with fail
            refine (IH.out (wr.alloc (.cells #[.int .i64 t.l[k].kind, .int .i64 t.l[k].n, .string ⟨t.l[k].s.toArray⟩, .slice a5 t.l[k].keys.length c5, .slice a6 t.l[k].l.length c6] 25)) ok t.l[k] _ (P5.out.bel (bel_alloc _ _))).mono ?_
            rintro e w3 ⟨rfl, hb3⟩
            obtain ⟨cb, hcb⟩ : ∃ cb, cln t.l[k] = cb := ⟨_, rfl⟩
            rw [hcb]
            have FB2 : Hid (cb = clns (t.l.take (k + 1))) := hidI (by rw [← hcb]; exact FB.out)
            have K3 := hidI (And.intro (box_bel hb3 (K.out _).1) (bel_trans (K.out _).2 hb3))
            clear hb3 hcb p0 p1 p2 p3 p4
            go_wp2_with fail
            go_roundg (t.l.length - (k + 1))
            case measure => rw [GK.out]; omega
            case rel => exact ⟨k + 1, cb, hlt, rfl, by go_num, rfl, FB2.out, K3.out.1, K3.out.2⟩
      · have hke : k = t.l.length := by omega
        have FB : Hid (cln t = b) := hidI (by rw [HC.out, HB.out, hke, List.take_of_length_le (Nat.le_refl _)])
        have d1 : ¬ (k : Int) < (t.l.length : Int) := by omega
        clear hke
        go_wp2_with fail
        go_ret
        exact ⟨by rw [FB.out]; rfl, I.out.2⟩
  · have e0 : (t.kind == 5) = false := by rw [beq_eq_false_iff_ne]; exact hk
    have HC : Hid (cln t = true) := hidI (by rw [cln_eq]; simp [hk])
    clear hk
    go_enter Tryz.func9, Tryz.ntmps9
    go_wp2_with fail
    go_ret
    exact ⟨by rw [HC.out]; rfl, bel_alloc _ _⟩
theorem isClean_all (d : Nat) : ICC d := by
  induction d with
  | zero => exact fun _ _ _ _ h => h.elim
  | succ d ih => exact isClean_succ d ih
theorem isClean_is (w : World) (ok : Nat → Prop) (t : V) (v : Value) (h : In w ok t v) :
    Calls Tryz.prog 9 #[v] w fun e w' => e = .returned (.bool (cln t)) ∧ Below w.heap.size w w' := by
  obtain ⟨d, h⟩ := h; exact isClean_all d w ok t v h
end Go.Proofs.YtfbddgpekbhpfacGreatDoor
