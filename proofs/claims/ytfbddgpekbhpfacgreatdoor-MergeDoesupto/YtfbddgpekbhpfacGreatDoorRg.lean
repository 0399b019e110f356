/- What word of json's reader does. -/
import Derived.Test.YtfbddgpekbhpfacGreatDoorCc
import Derived.Test.YtfbddgpekbhpfacGreatDoorRf
set_option linter.unusedSimpArgs false
set_option linter.unusedVariables false
namespace Go.Proofs.YtfbddgpekbhpfacGreatDoor
open Go.RowKit

def wordS (wd l : List UInt8) : Option (List UInt8) := if wd.isPrefixOf l then some (l.drop wd.length) else none

set_option maxRecDepth 100000 in
set_option maxHeartbeats 1000000 in
theorem word_st (w : World) (b : Nat) (s : ByteArray) (st : Option (List UInt8)) (wd : ByteArray) (k n : Int) (hk : I64 k) (hn : I64 n) (hwd : 0 < wd.size) (hwd2 : wd.size ≤ 100) (h : RdSt w b s st) :
    Calls Tryz.prog 42 #[.pointer (some ⟨b, 0, none⟩), .string wd, .agg #[.int .i64 k, .int .i64 n, .string ⟨#[]⟩, .slice none 0 0, .slice none 0 0]] w fun e w' => ∃ (t : V) (v : Value) (st' : Option (List UInt8)), e = .returned v ∧ IsLeaf t v ∧
      (st.bind (wordS wd.data.toList)).map (fun l => (leafV k n [], l)) = st'.map (fun l => (t, l)) ∧ RdSt w' b s st' ∧ w.grownBy w' (some b) := by
  have H := hidI h
  have hbl := h.lt
  obtain ⟨i, h1, e1⟩ := h
  have E1 := hidI e1
  have hi := h1.2.1
  have hs0 := h1.2.2
  have R0 := hidI h1
  clear e1 h1
  have hr1 : Hid (RdIs ((w.alloc (.cells #[.int .i64 k, .int .i64 n, .string ⟨#[]⟩, .slice none 0 0, .slice none 0 0] 25)).alloc zcells) b s i st.isNone) :=
    ⟨by rw [(World.grownBy_alloc _ zcells none).block b (by simp; omega) (by simp), (World.grownBy_alloc w _ none).block b hbl (by simp)]; exact R0.out.1, R0.out.2⟩
  have i0 : (0 : Int) ≤ (i : Int) := by omega
  have i1 : (i : Int) ≤ (s.size : Int) := by omega
  obtain ⟨c0, c1, c2, f1, f2⟩ := hr1.out.c
  unfold zcells at c0 c1 c2 f1 f2
  have hdr : Hid ((s.data.toList.drop i).take (s.size - i) = st.getD []) := by
    show _ = _
    rw [← E1.out]
    exact List.take_of_length_le (by simp only [List.length_drop, Array.length_toList]; exact Nat.le_refl _)
  cases hpx : wd.data.toList.isPrefixOf (st.getD []) with
  | true =>
    have hp : Lib.hasPrefix ((s.data.toList.drop i).take (s.size - i)) wd.data.toList = true := by rw [hdr.out]; exact hpx
    have HP := hidI hpx
    have hlen : i + wd.size ≤ s.size := by
      have := List.IsPrefix.length_le (List.isPrefixOf_iff_prefix.1 hpx)
      rw [← E1.out, List.length_drop, Array.length_toList, Array.length_toList] at this
      have e : s.data.size = s.size := rfl
      have e' : wd.data.size = wd.size := rfl
      omega
    clear hpx
    go_enter Tryz.func42, Tryz.ntmps42
    go_wp2_with fail
    go_quiet ((go_at_call 60; exact Calls.quiet_of_same (Tryz.strings_HasPrefix _ _ _)))
    go_wp2_with fail
    refine bodyPost_ret (v := leaf k n []) (by simp [results, Tryz.results42, go_sem, leaf, str]) rfl ?_
    refine ⟨leafV k n [], leaf k n [], st.map (List.drop wd.data.toList.length), rfl, ⟨_, _, rfl, rfl, hk, hn⟩, ?_, ?_, ?_⟩
    · cases st with
      | none => exact absurd HP.out (by
          cases hw : wd.data.toList with
          | nil => have e : wd.data.toList.length = wd.size := by rw [Array.length_toList]; rfl
                   rw [hw] at e; simp at e; omega
          | cons c r => simp)
      | some l => exact congrArg _ (show wordS wd.data.toList l = some _ by unfold wordS; exact if_pos HP.out)
    · have e9 : ((i : Int) + (wd.size : Int)) = ((i + wd.size : Nat) : Int) := by omega
      refine ⟨i + wd.size, ⟨?_, hlen, hs0⟩, ?_⟩
      · rw [e9]
        refine ((set5_gb _ (w.heap.size + 1) _ _ _ _ _).block b ?_ (by simp; omega)).trans ?_
        · simp [World.setCell]; omega
        · have : (st.map (List.drop wd.data.toList.length)).isNone = st.isNone := by cases st <;> rfl
          rw [this]
          exact heap_set hr1.out.1 1 _
      · have e8 : wd.data.toList.length = wd.size := by rw [Array.length_toList]; rfl
        rw [← List.drop_drop, E1.out, e8]
        cases st with
        | none => simp
        | some l => rfl
    · exact gb_own (gb_set (gb_drewN (gb_alloc (gb_alloc (gb_refl _ _) _) _) _) _ _) (set5_gb _ (w.heap.size + 1) _ _ _ _ _) (by intro k hk; cases hk; omega)
  | false =>
    have hp : Lib.hasPrefix ((s.data.toList.drop i).take (s.size - i)) wd.data.toList = false := by rw [hdr.out]; exact hpx
    have HP := hidI hpx
    clear hpx
    go_enter Tryz.func42, Tryz.ntmps42
    go_wp2_with fail
    go_quiet ((go_at_call 60; exact Calls.quiet_of_same (Tryz.strings_HasPrefix _ _ _)))
    go_wp2_with fail
    refine (fail_at _ b s (st.getD []) st.isNone (by exact ⟨i, ⟨hr1.out.1, hr1.out.2⟩, E1.out⟩)).mono ?_
    rintro e w4 ⟨rfl, h4, hg4⟩
    have hg5 := gb_trans (gb_drewN (gb_refl ((w.alloc (.cells #[.int .i64 k, .int .i64 n, .string ⟨#[]⟩, .slice none 0 0, .slice none 0 0] 25)).alloc zcells) (some b)) nq) hg4
    have hbx : BoxIs w4 (w.heap.size + 1) (.int .i64 0) (.int .i64 0) (.string ⟨#[]⟩) (.slice none 0 0) (.slice none 0 0) := BoxIs.grown (h2b w _ zcells) hg5 (by simp; omega)
    have R4 : Hid (RdAt w4 b s [] true ∧ w.grownBy w4 (some b)) := ⟨h4, gb_trans (gb_alloc (gb_alloc (gb_refl _ _) _) _) hg5⟩
    obtain ⟨x0, x1, x2, x3, x4, y0, y1, y2, y3, y4⟩ := hbx.c
    obtain ⟨z0, z1, z2, z3, z4, -⟩ := (hbx.set (.int .i64 0) (.int .i64 0) (str []) (.slice none 0 0) (.slice none 0 0)).c
    have Z : Hid (_ ∧ _ ∧ _ ∧ _ ∧ _) := ⟨z0, z1, z2, z3, z4⟩
    clear z0 z1 z2 z3 z4 hbx h4 hg4 hg5 c0 c1 c2 f1 f2
    go_wp2_with fail
    obtain ⟨z0, z1, z2, z3, z4⟩ := Z.out
    refine bodyPost_ret (v := leaf 0 0 []) ?_ rfl ?_
    · simp only [set5, str] at z0 z1 z2 z3 z4
      simp [results, Tryz.results42, go_sem, z0, z1, z2, z3, z4, leaf, str]
    · refine ⟨leafV 0 0 [], leaf 0 0 [], none, rfl, ⟨_, _, rfl, rfl, (by unfold I64; omega), (by unfold I64; omega)⟩, ?_, ?_, ?_⟩
      · cases st with
        | none => rfl
        | some l => exact congrArg _ (show wordS wd.data.toList l = none by unfold wordS; rw [if_neg (by rw [show wd.data.toList.isPrefixOf l = false from HP.out]; simp)])
      · exact R4.out.1.of_heap ((set5_gb w4 (w.heap.size + 1) _ _ _ _ _).block b R4.out.1.lt (by simp; omega))
      · exact gb_own R4.out.2 (set5_gb w4 (w.heap.size + 1) _ _ _ _ _) (by intro k hk; cases hk; omega)
end Go.Proofs.YtfbddgpekbhpfacGreatDoor
