/- That reads of package stairwelllaw answers yes. -/
import Derived.Test.YtfbddgpekbhpfaaDoorQi
set_option linter.unusedSimpArgs false
set_option linter.unusedVariables false
namespace Go.Proofs.YtfbddgpekbhpfaaDoor
open Go.RowKit

set_option maxRecDepth 100000 in
set_option maxHeartbeats 4000000 in
theorem lreads_at (w : World) (hG : Glob w) :
    Calls Tryd.prog 11 #[] w fun e w' => e = .returned (.bool true) ∧ Below w.heap.size w w' := by
  have HG := hidI hG
  clear hG
  go_enter Tryd.func11, Tryd.ntmps11
  go_wp2_with fail
  refine (parse_at _ readL (by decide) HG.out).mono ?_
  rintro e w1 ⟨t, ee, a7, a8, c7, c8, rfl, hp, hv, hb⟩
  have h0 := read_ok
  have h1 := shown_ok
  rw [hp] at h0 h1
  simp only at h0 h1
  subst h0
  have HP := hidI h1
  have HV := hidI hv
  have HB := hidI hb
  have HG1 : Hid (Glob w1) := HG.out.grown (gb_below (r := none) hb) (by simp)
  clear hp hv hb h1
  go_wp2_with fail
  refine (Print_at _ _ 2003 t _ (by exact HV.out.bel (bel_alloc _ _)) (by exact HG1.out.grown (World.grownBy_alloc _ _ none) (by simp))).mono ?_
  rintro e w2 ⟨l, ef, rfl, hq, hb2⟩
  rw [HP.out] at hq
  simp only [Prod.mk.injEq] at hq
  obtain ⟨rfl, rfl⟩ := hq
  have B2 := hidI (bel_trans HB.out (bel_trans (bel_alloc _ _) hb2))
  clear hb2
  have hs : (ByteArray.mk shownL.toArray == ByteArray.mk #[123, 34, 97, 34, 58, 34, 120, 65, 34, 44, 34, 98, 34, 58, 91, 49, 44, 110, 117, 108, 108, 93, 125]) = true := ba_eq rfl
  go_wp2_with fail
  go_ret
  exact ⟨rfl, B2.out⟩
end Go.Proofs.YtfbddgpekbhpfaaDoor
